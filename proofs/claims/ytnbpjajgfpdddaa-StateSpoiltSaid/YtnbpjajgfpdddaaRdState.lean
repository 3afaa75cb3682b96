/- state's reader: the state: by contract. -/
import Derived.Test.YtnbpjajgfpdddaaRdSlot
namespace Go.Proofs.Ytnbpjajgfpdddaa
open Go.RowKit
/-- the reader, the box of the result, the box of what is read: where reading stands -/
structure StIn (w : World) (g B b3 : Nat) (cells : Array Value) (r : Rd) (W : World) : Prop where
  rd : RdTo g B r w W
  bx : W.heap[b3]? = some (.cells cells 30 (0, 0))
  z : W.heap[w.heap.size]? = some (.cells #[.int .i64 0, .int .i64 0, .int .u32 0, .int .u32 0, .int .u32 0, .int .i64 0, .slice none 0 0, .int .u32 0, .int .i64 0, .slice none 0 0, .bool false, .int .u32 0, .int .u32 0, .int .i64 0, .int .i64 0, .int .i64 0, .slice none 0 0] 30 (0, 0))
theorem StIn.next {w W W' : World} {g B b3 : Nat} {cells : Array Value} {r r' : Rd} (h : StIn w g B b3 cells r W) (h2 : RdTo g B r' W W') (hg : g < w.heap.size) (hb : w.heap.size < b3) : StIn w g B b3 cells r' W' :=
  ⟨h.rd.trans h2, h2.box h.bx (by omega), h2.box h.z (by omega)⟩
theorem RdTo.setC {w w1 : World} {g B k : Nat} {r : Rd} (h : RdTo g B r w w1) (hk : w.heap.size ≤ k) (hg : g < w.heap.size) (j : Nat) (v : Value) : RdTo g B r w (w1.setCell ⟨k, j, none⟩ v) := by
  obtain ⟨⟨A, c, hx, hr, hBg, hn, hc⟩, hgr⟩ := h
  refine ⟨⟨A, c, (heap_setCell_other _ _ _ _ (by show g ≠ k; omega)).trans hx, hr.setCell (p := ⟨k, j, none⟩) (by show B ≤ k; omega) v, hBg, hn, hc⟩, ?_⟩
  exact ⟨hgr.os, hgr.tape, hgr.output, by simpa using hgr.size, fun b hb hne => (heap_setCell_other _ _ _ _ (by show b ≠ k; omega)).trans (hgr.block b hb hne)⟩
theorem StIn.setC {w W : World} {g B b3 : Nat} {cells : Array Value} {r : Rd} (h : StIn w g B b3 cells r W) (hg : g < w.heap.size) (hb : w.heap.size < b3) (j : Nat) (v : Value) : StIn w g B b3 (cells.setIfInBounds j v) r (W.setCell ⟨b3, j, none⟩ v) :=
  ⟨h.rd.setC (Nat.le_of_lt hb) hg j v, heap_setCell_same W b3 j _ _ v h.bx, (heap_setCell_other _ _ _ _ (by show w.heap.size ≠ b3; omega)).trans h.z⟩
theorem StIn.cast {w W : World} {g B b3 : Nat} {cells cells' : Array Value} {r : Rd} (h : StIn w g B b3 cells r W) (e : cells = cells') : StIn w g B b3 cells' r W := e ▸ h
theorem RowP.setC {W : World} {b3 n : Nat} {A : Option Addr} {xs : List Value} (h : RowP W (fun b => b3 < b) A n xs) (j : Nat) (v : Value) : RowP (W.setCell ⟨b3, j, none⟩ v) (fun b => b3 < b) A n xs :=
  h.keep (by simp) fun b hb _ => heap_setCell_other _ _ _ _ (by show b ≠ b3; omega)
theorem RowP.rd {W W' : World} {g B b3 n : Nat} {r : Rd} {A : Option Addr} {xs : List Value} (h : RowP W (fun b => b3 < b) A n xs) (h2 : RdTo g B r W W') (hg : g < b3) : RowP W' (fun b => b3 < b) A n xs :=
  h.keep h2.2.size fun b hb hl => h2.2.block b hl (fun e => by have : b = g := Option.some.inj e; omega)
/-- a state that is read -/
def StRd (g B : Nat) (L : LSt) (r : Rd) (w : World) (e : Ending) (w' : World) : Prop :=
  ∃ cs, e = .returned (.agg cs) ∧ Hid (IsSt w' (fun b => w.heap.size ≤ b) cs L) ∧ Hid (RdTo g B r w w')
theorem got_len (r : Rd) (n : Nat) : (r.got n).length ≤ n := by unfold Rd.got; split <;> simp <;> omega
theorem num1_lt (r : Rd) : (Rd.num 1 r).1 < 256 := by
  show CrcM.number (r.got 1) < 256
  have h := got_len r 1
  generalize r.got 1 = l at *
  match l, h with
  | [], _ => simp [CrcM.number]
  | [a], _ => have := CrcM.b_lt a; simp only [CrcM.number, List.foldl_cons, List.foldl_nil]; omega
/-- how far the slots are read -/
def StLoop (w : World) (g B b3 n1 n2 n3 n4 : Nat) (S0 S1 : LSlot) (r4 r5 r6 : Rd) (k : Nat) (W : World) : Prop :=
  (k = 0 ∧ StIn w g B b3 #[.int .i64 (n1 : Int), .int .i64 (n2 : Int), .int .u32 (n3 : Int), .int .u32 (n4 : Int), .int .u32 0, .int .i64 0, .slice none 0 0, .int .u32 0, .int .i64 0, .slice none 0 0, .bool false, .int .u32 0, .int .u32 0, .int .i64 0, .int .i64 0, .int .i64 0, .slice none 0 0] r4 W) ∨ (k = 1 ∧ ∃ A0 c0, RowP W (fun b => b3 < b) A0 S0.h.length (bv S0.h) ∧ StIn w g B b3 #[.int .i64 (n1 : Int), .int .i64 (n2 : Int), .int .u32 (n3 : Int), .int .u32 (n4 : Int), .int .u32 (S0.v : Int), .int .i64 S0.l, .slice A0 S0.h.length c0, .int .u32 0, .int .i64 0, .slice none 0 0, .bool false, .int .u32 0, .int .u32 0, .int .i64 0, .int .i64 0, .int .i64 0, .slice none 0 0] r5 W) ∨
  (k = 2 ∧ ∃ A0 c0 A1 c1, RowP W (fun b => b3 < b) A0 S0.h.length (bv S0.h) ∧ RowP W (fun b => b3 < b) A1 S1.h.length (bv S1.h) ∧ StIn w g B b3 #[.int .i64 (n1 : Int), .int .i64 (n2 : Int), .int .u32 (n3 : Int), .int .u32 (n4 : Int), .int .u32 (S0.v : Int), .int .i64 S0.l, .slice A0 S0.h.length c0, .int .u32 (S1.v : Int), .int .i64 S1.l, .slice A1 S1.h.length c1, .bool false, .int .u32 0, .int .u32 0, .int .i64 0, .int .i64 0, .int .i64 0, .slice none 0 0] r6 W)
set_option maxRecDepth 100000 in
set_option maxHeartbeats 3200000 in
theorem rstate_walk (n1 n2 n3 n4 : Nat) (S0 S1 : LSlot) (f : Bool) (M : LMan) (r1 r2 r3 r4 r5 r6 r7 r8 : Rd) {w : World} {g B : Nat} {r : Rd} (h : RdAt w g B r)
    (e1 : Rd.num 1 r = (n1, r1)) (e2 : Rd.num 1 r1 = (n2, r2)) (e3 : Rd.num 4 r2 = (n3, r3)) (e4 : Rd.num 4 r3 = (n4, r4)) (e5 : Rd.slot r4 = (S0, r5)) (e6 : Rd.slot r5 = (S1, r6)) (e7 : r6.flag = (f, r7)) (e8 : Rd.man r7 = (M, r8)) (L : LSt) (rF : Rd) (hL : Hid (L = ⟨n1, n2, n3, n4, S0.v, S0.l, S0.h, S1.v, S1.l, S1.h, f, if f then M else LMan.zero⟩)) (hF : Hid (rF = if f then r8 else r7)) :
    Calls Try.prog 47 #[.pointer (some ⟨g, 0, none⟩)] w (StRd g B L rF w) := by
  have hb0 : Below w.heap.size w (w.alloc (.cells #[.int .i64 0, .int .i64 0, .int .u32 0, .int .u32 0, .int .u32 0, .int .i64 0, .slice none 0 0, .int .u32 0, .int .i64 0, .slice none 0 0, .bool false, .int .u32 0, .int .u32 0, .int .i64 0, .int .i64 0, .int .i64 0, .slice none 0 0] 30)) := (Below.refl _ _).alloc (Nat.le_refl _) _
  have X0 := Lib.hid (heap_alloc_new w (.cells #[.int .i64 0, .int .i64 0, .int .u32 0, .int .u32 0, .int .u32 0, .int .i64 0, .slice none 0 0, .int .u32 0, .int .i64 0, .slice none 0 0, .bool false, .int .u32 0, .int .u32 0, .int .i64 0, .int .i64 0, .int .i64 0, .slice none 0 0] 30))
  have H0 := Lib.hid (h.below hb0)
  have LG := Lib.hid h.lt
  have BG := Lib.hid h.le
  have B0 := Lib.hid hb0
  have hn1 : (n1 : Int) ≤ 255 := by have := num1_lt r; rw [e1] at this; have : n1 < 256 := this; omega
  have hn2 : (n2 : Int) ≤ 255 := by have := num1_lt r1; rw [e2] at this; have : n2 < 256 := this; omega
  have c1 := fun (W : World) (rr : RdAt W g B r) => rnum_any 1 (by omega) (by omega) rr
  have c2 := fun (W : World) (rr : RdAt W g B r1) => rnum_any 1 (by omega) (by omega) rr
  have c3 := fun (W : World) (rr : RdAt W g B r2) => rnum_any 4 (by omega) (by omega) rr
  have c4 := fun (W : World) (rr : RdAt W g B r3) => rnum_any 4 (by omega) (by omega) rr
  have c5 := fun (W : World) (rr : RdAt W g B r4) => rslot_any rr
  have c6 := fun (W : World) (rr : RdAt W g B r5) => rslot_any rr
  have c7 := fun (W : World) (rr : RdAt W g B r6) => rflag_any rr
  have c8 := fun (W : World) (rr : RdAt W g B r7) => rman_any rr
  have p1 : r.past 1 = r1 := congrArg Prod.snd e1
  have p2 : r1.past 1 = r2 := congrArg Prod.snd e2
  have p3 : r2.past 4 = r3 := congrArg Prod.snd e3
  have p4 : r3.past 4 = r4 := congrArg Prod.snd e4
  unfold NumOk at c1 c2 c3 c4
  unfold FlagOk at c7
  rw [e1, p1] at c1; rw [e2, p2] at c2; rw [e3, p3] at c3; rw [e4, p4] at c4; rw [e5] at c5; rw [e6] at c6; rw [e7] at c7; rw [e8] at c8
  dsimp only at c1 c2 c3 c4 c5 c6 c7 c8
  have C1 := Lib.hid c1
  have C2 := Lib.hid c2
  have C3 := Lib.hid c3
  have C4 := Lib.hid c4
  have C5 := Lib.hid c5
  have C6 := Lib.hid c6
  have C7 := Lib.hid c7
  have C8 := Lib.hid c8
  clear h hb0 e1 e2 e3 e4 e5 e6 e7 e8 p1 p2 p3 p4 c1 c2 c3 c4 c5 c6 c7 c8
  go_enter Try.func47, Try.ntmps47
  go_wp2_with fail
  refine (C1.out _ H0.out).mono ?_
  rintro e w1 ⟨rfl, t1⟩
  go_wp2_with fail
  refine (C2.out _ t1.out.1).mono ?_
  rintro e w2 ⟨rfl, t2⟩
  go_wp2_with fail
  refine (C3.out _ t2.out.1).mono ?_
  rintro e w3 ⟨rfl, t3⟩
  go_wp2_with fail
  refine (C4.out _ t3.out.1).mono ?_
  rintro e w4 ⟨rfl, t4⟩
  have TT := ((t1.out.trans t2.out).trans t3.out).trans t4.out
  have x4 := TT.box X0.out (by have := LG.out; omega)
  have t0 := RdTo.of_below B0.out TT
  have L3 : w.heap.size < w4.heap.size := (Array.getElem?_eq_some_iff.1 x4).1
  have ba : Below w4.heap.size w4 (w4.alloc (.cells #[.int .i64 (n1 : Int), .int .i64 (n2 : Int), .int .u32 (n3 : Int), .int .u32 (n4 : Int), .int .u32 0, .int .i64 0, .slice none 0 0, .int .u32 0, .int .i64 0, .slice none 0 0, .bool false, .int .u32 0, .int .u32 0, .int .i64 0, .int .i64 0, .int .i64 0, .slice none 0 0] 30)) := (Below.refl _ _).alloc (Nat.le_refl _) _
  have hI : Hid (StLoop w g B w4.heap.size n1 n2 n3 n4 S0 S1 r4 r5 r6 0 (w4.alloc (.cells #[.int .i64 (n1 : Int), .int .i64 (n2 : Int), .int .u32 (n3 : Int), .int .u32 (n4 : Int), .int .u32 0, .int .i64 0, .slice none 0 0, .int .u32 0, .int .i64 0, .slice none 0 0, .bool false, .int .u32 0, .int .u32 0, .int .i64 0, .int .i64 0, .int .i64 0, .slice none 0 0] 30))) := Lib.hid (.inl ⟨rfl, ⟨t0.1.below ba, t0.2.trans (grown_of_below _ ba)⟩, heap_alloc_new _ _, (ba.block _ L3).trans x4⟩)
  have LB := Lib.hid L3
  clear t1 t2 t3 t4 TT x4 t0 L3 ba H0 X0 B0 C1 C2 C3 C4
  go_wp2_with ((with_reducible show wpList _ _ _ _ _ _); refine wpList_store_new rfl rfl _ (.tmp 3) (.tmp 15) rfl _ _ #[.int .i64 (n1 : Int), .int .i64 (n2 : Int), .int .u32 (n3 : Int), .int .u32 (n4 : Int), .int .u32 0, .int .i64 0, .slice none 0 0, .int .u32 0, .int .i64 0, .slice none 0 0, .bool false, .int .u32 0, .int .u32 0, .int .i64 0, .int .i64 0, .int .i64 0, .slice none 0 0] _ rfl rfl (by kernel_rfl) (by rfl) (by simp [Value.oneCell']) ?_)
  generalize w4.alloc (.cells #[.int .i64 (n1 : Int), .int .i64 (n2 : Int), .int .u32 (n3 : Int), .int .u32 (n4 : Int), .int .u32 0, .int .i64 0, .slice none 0 0, .int .u32 0, .int .i64 0, .slice none 0 0, .bool false, .int .u32 0, .int .u32 0, .int .i64 0, .int .i64 0, .int .i64 0, .slice none 0 0] 30) = w5 at *
  generalize w4.heap.size = b3 at *
  go_loopw [16] (fun x wr => ∃ k : Nat, k ≤ 2 ∧ x = .int .i64 k ∧ Hid (StLoop w g B b3 n1 n2 n3 n4 S0 S1 r4 r5 r6 k wr)) (fun x _ => 2 - (intOf x).toNat)
  case atStart => exact ⟨0, by omega, rfl, hI⟩
  case round =>
    clear hI
    obtain ⟨k, hk, rfl, hL⟩ := hrel
    rcases hL.out with ⟨rfl, hs⟩ | ⟨rfl, A0, c0, ha, hs⟩ | ⟨rfl, A0, c0, A1, c1, ha, ha1, hs⟩
    · have HS := Lib.hid hs
      clear hs hL
      go_wp2_with fail
      refine (C5.out _ HS.out.rd.1).mono ?_
      rintro e w6 ⟨A0, c0, rfl, hrow, hto⟩
      have h6 := HS.out.next hto.out LG.out LB.out
      have hr6 : RowP w6 (fun b => b3 < b) A0 S0.h.length (bv S0.h) := hrow.out.imp fun b _ hb => Nat.lt_of_lt_of_le (Array.getElem?_eq_some_iff.1 HS.out.bx).1 hb
      have hn : Hid (StLoop w g B b3 n1 n2 n3 n4 S0 S1 r4 r5 r6 1 (((w6.setCell ⟨b3, 4, none⟩ (.int .u32 (S0.v : Int))).setCell ⟨b3, 5, none⟩ (.int .i64 S0.l)).setCell ⟨b3, 6, none⟩ (.slice A0 S0.h.length c0))) :=
        Lib.hid (.inr (.inl ⟨rfl, A0, c0, ((hr6.setC _ _).setC _ _).setC _ _, (((h6.setC LG.out LB.out 4 (.int .u32 (S0.v : Int))).setC LG.out LB.out 5 (.int .i64 S0.l)).setC LG.out LB.out 6 (.slice A0 S0.h.length c0)).cast (by simp)⟩))
      have k4 := cell_of_row w6 b3 4 _ _ (0, 0) h6.bx
      have k5 := cell_of_row w6 b3 5 _ _ (0, 0) h6.bx
      have k6 := cell_of_row w6 b3 6 _ _ (0, 0) h6.bx
      have f4 := frozen_of_row w6 b3 4 _ _ h6.bx
      have f5 := frozen_of_row w6 b3 5 _ _ h6.bx
      have f6 := frozen_of_row w6 b3 6 _ _ h6.bx
      clear h6 hr6 hrow hto HS
      unfold LSlot.cells
      go_wp2_with fail
      go_roundw
      case rel => exact ⟨1, by omega, by go_num, hn⟩
      case measure => simp [intOf]
    · have HS := Lib.hid hs
      have HA := Lib.hid ha
      clear hs ha hL
      go_wp2_with fail
      refine (C6.out _ HS.out.rd.1).mono ?_
      rintro e w6 ⟨A1, c1, rfl, hrow, hto⟩
      have h6 := HS.out.next hto.out LG.out LB.out
      have hr6 : RowP w6 (fun b => b3 < b) A1 S1.h.length (bv S1.h) := hrow.out.imp fun b _ hb => Nat.lt_of_lt_of_le (Array.getElem?_eq_some_iff.1 HS.out.bx).1 hb
      have hr0 := HA.out.rd hto.out (Nat.lt_trans LG.out LB.out)
      have hn : Hid (StLoop w g B b3 n1 n2 n3 n4 S0 S1 r4 r5 r6 2 (((w6.setCell ⟨b3, 7, none⟩ (.int .u32 (S1.v : Int))).setCell ⟨b3, 8, none⟩ (.int .i64 S1.l)).setCell ⟨b3, 9, none⟩ (.slice A1 S1.h.length c1))) :=
        Lib.hid (.inr (.inr ⟨rfl, A0, c0, A1, c1, ((hr0.setC _ _).setC _ _).setC _ _, ((hr6.setC _ _).setC _ _).setC _ _, (((h6.setC LG.out LB.out 7 (.int .u32 (S1.v : Int))).setC LG.out LB.out 8 (.int .i64 S1.l)).setC LG.out LB.out 9 (.slice A1 S1.h.length c1)).cast (by simp)⟩))
      have k4 := cell_of_row w6 b3 7 _ _ (0, 0) h6.bx
      have k5 := cell_of_row w6 b3 8 _ _ (0, 0) h6.bx
      have k6 := cell_of_row w6 b3 9 _ _ (0, 0) h6.bx
      have f4 := frozen_of_row w6 b3 7 _ _ h6.bx
      have f5 := frozen_of_row w6 b3 8 _ _ h6.bx
      have f6 := frozen_of_row w6 b3 9 _ _ h6.bx
      clear h6 hr6 hr0 hrow hto HS HA
      unfold LSlot.cells
      go_wp2_with fail
      go_roundw
      case rel => exact ⟨2, by omega, by go_num, hn⟩
      case measure => simp [intOf]
    · have HS := Lib.hid hs
      have HA := Lib.hid ha
      have HA1 := Lib.hid ha1
      clear hs ha ha1 hL C5 C6
      go_wp2_with fail
      refine (C7.out _ HS.out.rd.1).mono ?_
      rintro e w6 ⟨rfl, hto⟩
      have h6 := HS.out.next hto.out LG.out LB.out
      have h7 : StIn w g B b3 #[.int .i64 (n1 : Int), .int .i64 (n2 : Int), .int .u32 (n3 : Int), .int .u32 (n4 : Int), .int .u32 (S0.v : Int), .int .i64 S0.l, .slice A0 S0.h.length c0, .int .u32 (S1.v : Int), .int .i64 S1.l, .slice A1 S1.h.length c1, .bool f, .int .u32 0, .int .u32 0, .int .i64 0, .int .i64 0, .int .i64 0, .slice none 0 0] r7 (w6.setCell ⟨b3, 10, none⟩ (.bool f)) := (h6.setC LG.out LB.out 10 (.bool f)).cast (by simp)
      have H7 := Lib.hid h7
      clear h7
      have R0 := Lib.hid ((HA.out.rd hto.out (Nat.lt_trans LG.out LB.out)).setC 10 (.bool f))
      have R1 := Lib.hid ((HA1.out.rd hto.out (Nat.lt_trans LG.out LB.out)).setC 10 (.bool f))
      have k4 := cell_of_row w6 b3 10 _ _ (0, 0) h6.bx
      have f4 := frozen_of_row w6 b3 10 _ _ h6.bx
      have k5 := cell_of_row _ b3 10 _ _ (0, 0) H7.out.bx
      clear h6 hto HS HA HA1
      cases f with
      | false =>
        clear C8
        go_wp2_with (first
          | ((with_reducible show wpList _ _ _ _ _ _); refine wpList_load_row (o := ⟨some 33, _, _, _, _, _⟩) rfl _ (.tmp 3) rfl b3 rfl _ _ _ _ H7.out.bx Try.underlying30 rfl (by kernel_rfl) ?_)
          | ((with_reducible show wpList _ _ _ _ _ _); refine wpList_store_row rfl _ (.tmp 2) (.tmp 33) rfl (w.heap.size) #[.int .i64 (n1 : Int), .int .i64 (n2 : Int), .int .u32 (n3 : Int), .int .u32 (n4 : Int), .int .u32 (S0.v : Int), .int .i64 S0.l, .slice A0 S0.h.length c0, .int .u32 (S1.v : Int), .int .i64 S1.l, .slice A1 S1.h.length c1, .bool false, .int .u32 0, .int .u32 0, .int .i64 0, .int .i64 0, .int .i64 0, .slice none 0 0] rfl rfl _ _ H7.out.z (by kernel_rfl) (by kernel_rfl) (by simp [Value.oneCell']) ?_))
        generalize (w6.setCell ⟨b3, 10, none⟩ (.bool false)) = w7 at *
        have hrow : (w7.setRow w.heap.size #[.int .i64 (n1 : Int), .int .i64 (n2 : Int), .int .u32 (n3 : Int), .int .u32 (n4 : Int), .int .u32 (S0.v : Int), .int .i64 S0.l, .slice A0 S0.h.length c0, .int .u32 (S1.v : Int), .int .i64 S1.l, .slice A1 S1.h.length c1, .bool false, .int .u32 0, .int .u32 0, .int .i64 0, .int .i64 0, .int .i64 0, .slice none 0 0]).heap[w.heap.size]? = some (.cells #[.int .i64 (n1 : Int), .int .i64 (n2 : Int), .int .u32 (n3 : Int), .int .u32 (n4 : Int), .int .u32 (S0.v : Int), .int .i64 S0.l, .slice A0 S0.h.length c0, .int .u32 (S1.v : Int), .int .i64 S1.l, .slice A1 S1.h.length c1, .bool false, .int .u32 0, .int .u32 0, .int .i64 0, .int .i64 0, .int .i64 0, .slice none 0 0] 30 (0, 0)) := setRow_heap _ _ _ _ _ _ H7.out.z
        refine bodyPost_ret (results_cell_row rfl _ _ (w.heap.size) _ _ (0, 0) _ rfl hrow Try.underlying30 rfl (by kernel_rfl)) rfl ?_
        rw [hL.out, hF.out]
        refine ⟨_, rfl, Lib.hid ⟨A0, c0, A1, c1, none, 0, rfl, ?_, ?_, .nil _ _ _⟩, Lib.hid (H7.out.rd.setRow (Nat.le_refl _) LG.out (by have := LG.out; have := BG.out; omega) _)⟩
        · exact (R0.out.keep (by simp) fun b hb _ => setRow_other _ _ _ _ (by have := LB.out; omega)).imp fun b _ hb => by have := LB.out; omega
        · exact (R1.out.keep (by simp) fun b hb _ => setRow_other _ _ _ _ (by have := LB.out; omega)).imp fun b _ hb => by have := LB.out; omega
      | true =>
        go_wp2_with fail
        generalize hw7 : (w6.setCell ⟨b3, 10, none⟩ (.bool true)) = w7 at *
        clear hw7 k4 f4 k5
        refine (C8.out _ H7.out.rd.1).mono ?_
        rintro e w8 ⟨cs, rfl, hman, hto⟩
        obtain ⟨AM, cM, rfl, hrm⟩ := hman.out
        have h8 := H7.out.next hto.out LG.out LB.out
        have hrm : RowP w8 (fun b => b3 < b) AM M.h.length (bv M.h) := hrm.imp fun b _ hb => Nat.lt_of_lt_of_le (Array.getElem?_eq_some_iff.1 H7.out.bx).1 hb
        have hr0 := R0.out.rd hto.out (Nat.lt_trans LG.out LB.out)
        have hr1 := R1.out.rd hto.out (Nat.lt_trans LG.out LB.out)
        have h9 : StIn w g B b3 #[.int .i64 (n1 : Int), .int .i64 (n2 : Int), .int .u32 (n3 : Int), .int .u32 (n4 : Int), .int .u32 (S0.v : Int), .int .i64 S0.l, .slice A0 S0.h.length c0, .int .u32 (S1.v : Int), .int .i64 S1.l, .slice A1 S1.h.length c1, .bool true, .int .u32 (M.s : Int), .int .u32 (M.v : Int), .int .i64 M.l, .int .i64 M.z, .int .i64 M.p, .slice AM M.h.length cM] r8 ((((((w8.setCell ⟨b3, 11, none⟩ (.int .u32 (M.s : Int))).setCell ⟨b3, 12, none⟩ (.int .u32 (M.v : Int))).setCell ⟨b3, 13, none⟩ (.int .i64 M.l)).setCell ⟨b3, 14, none⟩ (.int .i64 M.z)).setCell ⟨b3, 15, none⟩ (.int .i64 M.p)).setCell ⟨b3, 16, none⟩ (.slice AM M.h.length cM)) := ((((((h8.setC LG.out LB.out 11 (.int .u32 (M.s : Int))).setC LG.out LB.out 12 (.int .u32 (M.v : Int))).setC LG.out LB.out 13 (.int .i64 M.l)).setC LG.out LB.out 14 (.int .i64 M.z)).setC LG.out LB.out 15 (.int .i64 M.p)).setC LG.out LB.out 16 (.slice AM M.h.length cM)).cast (by simp)
        have q0 := Lib.hid ((((((hr0.setC 11 (.int .u32 (M.s : Int))).setC 12 (.int .u32 (M.v : Int))).setC 13 (.int .i64 M.l)).setC 14 (.int .i64 M.z)).setC 15 (.int .i64 M.p)).setC 16 (.slice AM M.h.length cM))
        have q1 := Lib.hid ((((((hr1.setC 11 (.int .u32 (M.s : Int))).setC 12 (.int .u32 (M.v : Int))).setC 13 (.int .i64 M.l)).setC 14 (.int .i64 M.z)).setC 15 (.int .i64 M.p)).setC 16 (.slice AM M.h.length cM))
        have qm := Lib.hid ((((((hrm.setC 11 (.int .u32 (M.s : Int))).setC 12 (.int .u32 (M.v : Int))).setC 13 (.int .i64 M.l)).setC 14 (.int .i64 M.z)).setC 15 (.int .i64 M.p)).setC 16 (.slice AM M.h.length cM))
        have H9 := Lib.hid h9
        have k11 := cell_of_row w8 b3 11 _ _ (0, 0) h8.bx
        have k12 := cell_of_row w8 b3 12 _ _ (0, 0) h8.bx
        have k13 := cell_of_row w8 b3 13 _ _ (0, 0) h8.bx
        have k14 := cell_of_row w8 b3 14 _ _ (0, 0) h8.bx
        have k15 := cell_of_row w8 b3 15 _ _ (0, 0) h8.bx
        have k16 := cell_of_row w8 b3 16 _ _ (0, 0) h8.bx
        have f11 := frozen_of_row w8 b3 11 _ _ h8.bx
        have f12 := frozen_of_row w8 b3 12 _ _ h8.bx
        have f13 := frozen_of_row w8 b3 13 _ _ h8.bx
        have f14 := frozen_of_row w8 b3 14 _ _ h8.bx
        have f15 := frozen_of_row w8 b3 15 _ _ h8.bx
        have f16 := frozen_of_row w8 b3 16 _ _ h8.bx
        clear h8 h9 hrm hr0 hr1 hto hman H7 R0 R1 C8
        have I9 : Hid ((Try.prog.info? 30).map (·.size) = some (#[.int .i64 (n1 : Int), .int .i64 (n2 : Int), .int .u32 (n3 : Int), .int .u32 (n4 : Int), .int .u32 (S0.v : Int), .int .i64 S0.l, .slice A0 S0.h.length c0, .int .u32 (S1.v : Int), .int .i64 S1.l, .slice A1 S1.h.length c1, .bool true, .int .u32 (M.s : Int), .int .u32 (M.v : Int), .int .i64 M.l, .int .i64 M.z, .int .i64 M.p, .slice AM M.h.length cM] : Array Value).size) := Lib.hid (by kernel_rfl)
        have Z9 : Hid ((#[.int .i64 0, .int .i64 0, .int .u32 0, .int .u32 0, .int .u32 0, .int .i64 0, .slice none 0 0, .int .u32 0, .int .i64 0, .slice none 0 0, .bool false, .int .u32 0, .int .u32 0, .int .i64 0, .int .i64 0, .int .i64 0, .slice none 0 0] : Array Value).size = (#[.int .i64 (n1 : Int), .int .i64 (n2 : Int), .int .u32 (n3 : Int), .int .u32 (n4 : Int), .int .u32 (S0.v : Int), .int .i64 S0.l, .slice A0 S0.h.length c0, .int .u32 (S1.v : Int), .int .i64 S1.l, .slice A1 S1.h.length c1, .bool true, .int .u32 (M.s : Int), .int .u32 (M.v : Int), .int .i64 M.l, .int .i64 M.z, .int .i64 M.p, .slice AM M.h.length cM] : Array Value).size) := Lib.hid rfl
        have O9 : Hid ((#[.int .i64 (n1 : Int), .int .i64 (n2 : Int), .int .u32 (n3 : Int), .int .u32 (n4 : Int), .int .u32 (S0.v : Int), .int .i64 S0.l, .slice A0 S0.h.length c0, .int .u32 (S1.v : Int), .int .i64 S1.l, .slice A1 S1.h.length c1, .bool true, .int .u32 (M.s : Int), .int .u32 (M.v : Int), .int .i64 M.l, .int .i64 M.z, .int .i64 M.p, .slice AM M.h.length cM] : Array Value).all (·.oneCell') = true) := Lib.hid (by simp [Value.oneCell'])
        unfold LMan.cells
        go_upto_region 10 with fail
        generalize ((((((w8.setCell ⟨b3, 11, none⟩ (.int .u32 (M.s : Int))).setCell ⟨b3, 12, none⟩ (.int .u32 (M.v : Int))).setCell ⟨b3, 13, none⟩ (.int .i64 M.l)).setCell ⟨b3, 14, none⟩ (.int .i64 M.z)).setCell ⟨b3, 15, none⟩ (.int .i64 M.p)).setCell ⟨b3, 16, none⟩ (.slice AM M.h.length cM)) = w9 at *
        clear k11 k12 k13 k14 k15 k16 f11 f12 f13 f14 f15 f16
        go_wp2_with (first
          | ((with_reducible show wpList _ _ _ _ _ _); refine wpList_load_row (o := ⟨some 33, _, _, _, _, _⟩) rfl _ (.tmp 3) rfl b3 rfl _ _ _ _ H9.out.bx Try.underlying30 rfl (by kernel_rfl) ?_)
          | ((with_reducible show wpList _ _ _ _ _ _); refine wpList_store_row rfl _ (.tmp 2) (.tmp 33) rfl (w.heap.size) #[.int .i64 (n1 : Int), .int .i64 (n2 : Int), .int .u32 (n3 : Int), .int .u32 (n4 : Int), .int .u32 (S0.v : Int), .int .i64 S0.l, .slice A0 S0.h.length c0, .int .u32 (S1.v : Int), .int .i64 S1.l, .slice A1 S1.h.length c1, .bool true, .int .u32 (M.s : Int), .int .u32 (M.v : Int), .int .i64 M.l, .int .i64 M.z, .int .i64 M.p, .slice AM M.h.length cM] rfl rfl _ _ H9.out.z I9.out Z9.out O9.out ?_))
        have hrow : (w9.setRow w.heap.size #[.int .i64 (n1 : Int), .int .i64 (n2 : Int), .int .u32 (n3 : Int), .int .u32 (n4 : Int), .int .u32 (S0.v : Int), .int .i64 S0.l, .slice A0 S0.h.length c0, .int .u32 (S1.v : Int), .int .i64 S1.l, .slice A1 S1.h.length c1, .bool true, .int .u32 (M.s : Int), .int .u32 (M.v : Int), .int .i64 M.l, .int .i64 M.z, .int .i64 M.p, .slice AM M.h.length cM]).heap[w.heap.size]? = some (.cells #[.int .i64 (n1 : Int), .int .i64 (n2 : Int), .int .u32 (n3 : Int), .int .u32 (n4 : Int), .int .u32 (S0.v : Int), .int .i64 S0.l, .slice A0 S0.h.length c0, .int .u32 (S1.v : Int), .int .i64 S1.l, .slice A1 S1.h.length c1, .bool true, .int .u32 (M.s : Int), .int .u32 (M.v : Int), .int .i64 M.l, .int .i64 M.z, .int .i64 M.p, .slice AM M.h.length cM] 30 (0, 0)) := setRow_heap _ _ _ _ _ _ H9.out.z
        refine bodyPost_ret (results_cell_row rfl _ _ (w.heap.size) _ _ (0, 0) _ rfl hrow Try.underlying30 rfl (by kernel_rfl)) rfl ?_
        rw [hL.out, hF.out]
        refine ⟨_, rfl, Lib.hid ⟨A0, c0, A1, c1, AM, cM, rfl, ?_, ?_, ?_⟩, Lib.hid (H9.out.rd.setRow (Nat.le_refl _) LG.out (by have := LG.out; have := BG.out; omega) _)⟩
        · exact (q0.out.keep (by simp) fun b hb _ => setRow_other _ _ _ _ (by have := LB.out; omega)).imp fun b _ hb => by have := LB.out; omega
        · exact (q1.out.keep (by simp) fun b hb _ => setRow_other _ _ _ _ (by have := LB.out; omega)).imp fun b _ hb => by have := LB.out; omega
        · exact (qm.out.keep (by simp) fun b hb _ => setRow_other _ _ _ _ (by have := LB.out; omega)).imp fun b _ hb => by have := LB.out; omega
theorem pair_eta {α β : Type} (p : α × β) : p = (p.1, p.2) := rfl
theorem rstate_any {w : World} {g B : Nat} {r : Rd} (h : RdAt w g B r) :
    Calls Try.prog 47 #[.pointer (some ⟨g, 0, none⟩)] w (StRd g B (Rd.state r).1 (Rd.state r).2 w) := by
  have := rstate_walk _ _ _ _ _ _ _ _ _ _ _ _ _ _ _ _ h (pair_eta _) (pair_eta _) (pair_eta _) (pair_eta _) (pair_eta _) (pair_eta _) (pair_eta _) (pair_eta _) _ _ (Lib.hid rfl) (Lib.hid rfl)
  refine this.mono ?_
  intro e w' hh
  have e1 : Rd.state r = (mkSt (Rd.parts r).1, (Rd.parts r).2) := rfl
  rw [e1]
  unfold Rd.parts Rd.bind Rd.now mkSt
  dsimp only
  generalize (Rd.slot (Rd.slot (Rd.num 4 (Rd.num 4 (Rd.num 1 (Rd.num 1 r).2).2).2).2).2).2 = r6 at *
  cases hf : r6.flag.1 with
  | false => rw [hf] at hh; exact hh
  | true => rw [hf] at hh; exact hh
end Go.Proofs.Ytnbpjajgfpdddaa
