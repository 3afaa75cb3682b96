/- The reference's ParseState: what holds while it reads. -/
import Derived.Test.YtdipccjgpkedhaaRRdr
import Derived.Test.YtdipccjgpkedhaaRPMath
import Derived.Test.YtdipccjgpkedhaaRRead
import Derived.Test.YtdipccjgpkedhaaRAdm
namespace Go.Proofs.Ytdipccjgpkedhaa
open Go.RowKit
def zst : Array Value := #[.int .i64 0, .int .i64 0, .int .u32 0, .int .u32 0, .int .u32 0, .int .i64 0, .slice none 0 0, .int .u32 0, .int .i64 0, .slice none 0 0, .bool false, .int .u32 0, .int .u32 0, .int .i64 0, .int .i64 0, .int .i64 0, .slice none 0 0]
/-- reader r, the state's box with these cells, the answer's box still zero -/
structure PIn (w : World) (cells : Array Value) (r : Rd) (W : World) : Prop where
  rd : RdAt2 W (w.heap.size + 1) w.heap.size r
  b : Below w.heap.size w W
  xr : W.heap[w.heap.size]? = some (.cells #[.int .i64 0, .int .i64 0, .int .u32 0, .int .u32 0, .int .u32 0, .int .i64 0, .slice none 0 0, .int .u32 0, .int .i64 0, .slice none 0 0, .bool false, .int .u32 0, .int .u32 0, .int .i64 0, .int .i64 0, .int .i64 0, .slice none 0 0] 30 (0, 0))
  x5 : W.heap[w.heap.size + 2]? = some (.cells cells 30 (0, 0))
section
variable {w W W' : World} {cells : Array Value} {r r' : Rd}
theorem PIn.next (h : PIn w cells r W) (h2 : RdTo2 (w.heap.size + 1) w.heap.size r' W W') : PIn w cells r' W' :=
  ⟨h2.1, h.b.grown h2.2 h.b.size (fun g hg => by have : w.heap.size + 1 = g := Option.some.inj hg; omega), (h2.2.block _ (Array.getElem?_eq_some_iff.1 h.xr).1 (fun e => by have : w.heap.size = w.heap.size + 1 := Option.some.inj e; omega)).trans h.xr,
    (h2.2.block _ (Array.getElem?_eq_some_iff.1 h.x5).1 (fun e => by have : w.heap.size + 2 = w.heap.size + 1 := Option.some.inj e; omega)).trans h.x5⟩
theorem PIn.below (h : PIn w cells r W) (hb : Below W.heap.size W W') : PIn w cells r W' :=
  ⟨h.rd.below hb, h.b.trans (hb.mono h.b.size), (hb.block _ (Array.getElem?_eq_some_iff.1 h.xr).1).trans h.xr, (hb.block _ (Array.getElem?_eq_some_iff.1 h.x5).1).trans h.x5⟩
theorem RdAt2.setC {g B : Nat} (h : RdAt2 W g B r) {g5 : Nat} (hb : B ≤ g5) (hne : g5 ≠ g) (j : Nat) (v : Value) : RdAt2 (W.setCell ⟨g5, j, none⟩ v) g B r := by
  obtain ⟨A, c, hx, hr, hB, h1, h2⟩ := h
  exact ⟨A, c, (heap_setCell_other _ _ _ _ (fun e => hne e.symm)).trans hx, hr.setCell (p := ⟨g5, j, none⟩) hb v, hB, h1, h2⟩
theorem PIn.setC (h : PIn w cells r W) (j : Nat) (v : Value) : PIn w (cells.setIfInBounds j v) r (W.setCell ⟨w.heap.size + 2, j, none⟩ v) :=
  ⟨h.rd.setC (by omega) (by omega) j v, h.b.setCell (p := ⟨w.heap.size + 2, j, none⟩) (by show w.heap.size ≤ w.heap.size + 2; omega) v, (heap_setCell_other _ _ _ _ (by show w.heap.size ≠ w.heap.size + 2; omega)).trans h.xr, heap_setCell_same _ _ j _ _ v h.x5⟩
theorem PIn.drew (h : PIn w cells r W) : PIn w cells r W.drew := h.below ((Below.refl _ _).drew)
theorem PIn.cast {cells' : Array Value} (h : PIn w cells r W) (e : cells = cells') : PIn w cells' r W := e ▸ h
theorem PIn.cell (h : PIn w cells r W) (k : Nat) : W.cell? ⟨w.heap.size + 2, k, none⟩ = cells[k]? := cell_of_row W _ k _ _ (0, 0) h.x5
theorem PIn.fro (h : PIn w cells r W) (k : Nat) : W.frozen? ⟨w.heap.size + 2, k, none⟩ = false := frozen_of_row W _ k _ _ h.x5
/-- the reader's cells -/
theorem PIn.read (h : PIn w cells r W) : ∃ A c, W.cell? ⟨w.heap.size + 1, 0, none⟩ = some (.slice A r.l.length c) ∧ W.cell? ⟨w.heap.size + 1, 1, none⟩ = some (.int .i64 r.e) := by
  obtain ⟨A, c, hx, _⟩ := h.rd
  exact ⟨A, c, by rw [cell_of_row W _ 0 _ _ (0, 0) hx]; rfl, by rw [cell_of_row W _ 1 _ _ (0, 0) hx]; rfl⟩
end
theorem RowP.setP {W : World} {g5 n : Nat} {A : Option Addr} {xs : List Value} (h : RowP W (fun b => g5 < b) A n xs) (j : Nat) (v : Value) : RowP (W.setCell ⟨g5, j, none⟩ v) (fun b => g5 < b) A n xs :=
  h.keep (by simp) fun b hb _ => heap_setCell_other _ _ _ _ (by show b ≠ g5; omega)
theorem RowP.rdP {W W' : World} {g B g5 n : Nat} {r : Rd} {A : Option Addr} {xs : List Value} (h : RowP W (fun b => g5 < b) A n xs) (h2 : RdTo2 g B r W W') (hg : g < g5) : RowP W' (fun b => g5 < b) A n xs :=
  h.keep h2.2.size fun b hb hl => h2.2.block b hl (fun e => by have : b = g := Option.some.inj e; omega)
theorem slot2_no {r : Rd} (h : r.flag.1 = false) : r.slot2 = (LSlot.zero, r.flag.2) := by unfold Rd.slot2; rw [h]; rfl
theorem slot2_yes {r : Rd} (h : r.flag.1 = true) : r.slot2 = (slotOf (r.flag.2.got 38), r.flag.2.past 38) := by unfold Rd.slot2; rw [h]; rfl
theorem now_no {r : Rd} (h : r.flag.1 = false) : r.now = ((false, LMan.zero), r.flag.2) := by unfold Rd.now; rw [h]; rfl
theorem now_yes {r : Rd} (h : r.flag.1 = true) : r.now = ((true, readM (r.flag.2.got 44)), (r.flag.2.past 44).fail (readE (r.flag.2.got 44))) := by unfold Rd.now Rd.man; rw [h]; rfl
/-- what was read, put together -/
theorem parts2_of {l : List UInt8} {y0 y1 : UInt8} {n3 n4 : Nat} {S0 S1 : LSlot} {r1 r2 r3 r4 r5 rF : Rd} {on : Bool} {M : LMan} (e1 : (⟨l, 0⟩ : Rd).got 2 = [y0, y1]) (p1 : (⟨l, 0⟩ : Rd).past 2 = r1) (e3 : CrcM.number (r1.got 4) = n3) (p2 : r1.past 4 = r2) (e4 : CrcM.number (r2.got 4) = n4) (p3 : r2.past 4 = r3)
    (s0 : r3.slot2 = (S0, r4)) (s1 : r4.slot2 = (S1, r5)) (nw : r5.now = ((on, M), rF)) : Rd.parts2 ⟨l, 0⟩ = ((y0.toNat, y1.toNat, n3, n4, S0, S1, on, M), rF) := by
  have h2 : (⟨l, 0⟩ : Rd).two2 = ((y0.toNat, y1.toNat), r1) := by unfold Rd.two2; rw [e1, p1]; rfl
  have h3 : Rd.num 4 r1 = (n3, r2) := by unfold Rd.num; rw [e3, p2]
  have h4 : Rd.num 4 r2 = (n4, r3) := by unfold Rd.num; rw [e4, p3]
  unfold Rd.parts2
  rw [h2]
  dsimp only
  have ht : r1.tail2 = ((n3, n4, S0, S1, on, M), rF) := by
    unfold Rd.tail2
    simp only [Rd.bind, h3, h4, s0, s1, nw]
  rw [ht]
theorem parse2_err {l : List UInt8} {v : Nat × Nat × Nat × Nat × LSlot × LSlot × Bool × LMan} {rF : Rd} (h : Rd.parts2 ⟨l, 0⟩ = (v, rF)) {k : Int} (hk : rF.e = k) (h0 : k ≠ 0) : parse2L l = LSt.zero ∧ parse2E l = k := by
  unfold parse2L parse2E
  rw [h]
  dsimp only
  rw [hk]
  exact ⟨if_neg (fun hh => h0 hh.1), if_neg h0⟩
theorem parse2_bad {l : List UInt8} {v : Nat × Nat × Nat × Nat × LSlot × LSlot × Bool × LMan} {rF : Rd} (h : Rd.parts2 ⟨l, 0⟩ = (v, rF)) (h0 : rF.e = 0) (hb : ¬ (rF.l = [] ∧ (mkSt v).may = true)) : parse2L l = LSt.zero ∧ parse2E l = 3 := by
  unfold parse2L parse2E
  rw [h]
  dsimp only
  rw [if_neg (fun hh => hb ⟨hh.2.1, hh.2.2⟩), if_pos h0, if_neg hb]
  exact ⟨rfl, rfl⟩
theorem parse2_ok {l : List UInt8} {v : Nat × Nat × Nat × Nat × LSlot × LSlot × Bool × LMan} {rF : Rd} (h : Rd.parts2 ⟨l, 0⟩ = (v, rF)) (h0 : rF.e = 0) (hl : rF.l = []) (hm : (mkSt v).may = true) : parse2L l = mkSt v ∧ parse2E l = 0 := by
  unfold parse2L parse2E
  rw [h]
  dsimp only
  rw [if_pos ⟨h0, hl, hm⟩, if_pos h0, if_pos ⟨hl, hm⟩]
  exact ⟨rfl, rfl⟩
def RPsOk (l : List UInt8) (w : World) (e : Ending) (w' : World) : Prop := ∃ ds, e = .returned (.tuple #[.agg ds, .int .i64 (parse2E l)]) ∧ Hid (IsSt w' (fun _ => True) ds (parse2L l)) ∧ Hid (Below w.heap.size w w')
theorem rps_of {l : List UInt8} {w w' : World} {e : Ending} {L : LSt} {k : Int} (h : parse2L l = L ∧ parse2E l = k) (hx : ∃ ds, e = .returned (.tuple #[.agg ds, .int .i64 k]) ∧ Hid (IsSt w' (fun _ => True) ds L) ∧ Hid (Below w.heap.size w w')) : RPsOk l w e w' := by
  unfold RPsOk
  rw [h.1, h.2]
  exact hx
end Go.Proofs.Ytdipccjgpkedhaa
