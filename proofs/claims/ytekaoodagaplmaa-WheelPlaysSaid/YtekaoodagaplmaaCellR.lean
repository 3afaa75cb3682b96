/- cell.read, where there is power: by contract. -/
import Derived.Test.YtekaoodagaplmaaCellP
namespace Go.Proofs.Ytekaoodagaplmaa
open Go.RowKit
theorem results_ct_row {P : Program} {fn : Func} {p u : Tmp} {ty : TypeId} (h : fn.results = #[.cell p ty, .tmp u]) (tmps : Array Value) (w : World) (g : Nat) (t : TypeId) (cs : Array Value) (fr : Nat × Nat) (d : TypeDesc)
    (hp : tmps.getD p undef = .pointer (some ⟨g, 0, none⟩)) (hg : w.heap[g]? = some (.cells cs t fr))
    (hu : P.underlying ty = some d) (hd : (match d with | .struct _ | .array _ _ => true | _ => false) = true) (hi : (P.info? ty).map (·.size) = some cs.size) :
    (results fn tmps).run P w = .ok (.tuple #[.agg cs, tmps.getD u undef]) w := by
  have hp' : tmps[p]?.getD undef = .pointer (some ⟨g, 0, none⟩) := by simpa using hp
  simp [results, h, hp', asAddr, run_loadVar_row w g t ty cs fr d hg hu hd hi]
theorem six_lo {w : World} {g : Nat} {a b c d e f : Value} {t : TypeId} (h : w.heap[g]? = some (.cells #[a, b, c, d, e, f] t (0, 0))) (x y z : Value) : (((w.setCell ⟨g, 0, none⟩ x).setCell ⟨g, 1, none⟩ y).setCell ⟨g, 2, none⟩ z).heap[g]? = some (.cells #[x, y, z, d, e, f] t (0, 0)) :=
  heap_setCell_same _ g 2 _ t z (heap_setCell_same _ g 1 _ t y (heap_setCell_same w g 0 _ t x h))
theorem six_hi {w : World} {g : Nat} {a b c d e f : Value} {t : TypeId} (h : w.heap[g]? = some (.cells #[a, b, c, d, e, f] t (0, 0))) (x y z : Value) : (((w.setCell ⟨g, 3, none⟩ x).setCell ⟨g, 4, none⟩ y).setCell ⟨g, 5, none⟩ z).heap[g]? = some (.cells #[a, b, c, x, y, z] t (0, 0)) :=
  heap_setCell_same _ g 5 _ t z (heap_setCell_same _ g 4 _ t y (heap_setCell_same w g 3 _ t x h))
theorem grown_set3 (w : World) (g i j k : Nat) (x y z : Value) : w.grownBy (((w.setCell ⟨g, i, none⟩ x).setCell ⟨g, j, none⟩ y).setCell ⟨g, k, none⟩ z) (some g) :=
  ((grown_set w g i x).trans (grown_set _ g j y)).trans (grown_set _ g k z)
theorem PartIs.set3 {b : List UInt8} {base g i j k : Nat} {W : World} {wh : Bool} {num : Nat} {A : Option Addr} {n c : Nat} (h : PartIs b base W wh num A n c) (hg : g < base) (x y z : Value) : PartIs b base (((W.setCell ⟨g, i, none⟩ x).setCell ⟨g, j, none⟩ y).setCell ⟨g, k, none⟩ z) wh num A n c := h.grown (grown_set3 W g i j k x y z) hg
theorem grown_setRow (w : World) (g : Nat) (cs : Array Value) : w.grownBy (w.setRow g cs) (some g) :=
  ⟨rfl, rfl, rfl, by simp, fun j _ hj => setRow_other _ _ _ _ (fun e => hj (by simp [e]))⟩
/-- the two parts of flash f, as six cells -/
def Parts2 (f : Fl) (base : Nat) (W : World) (cs : Array Value) (o0 : Bool) (n0 : Nat) (A0 : Option Addr) (m0 c0 : Nat) (o1 : Bool) (n1 : Nat) (A1 : Option Addr) (m1 c1 : Nat) : Prop :=
  cs = #[.bool o0, .int .u32 (n0 : Int), .slice A0 m0 c0, .bool o1, .int .u32 (n1 : Int), .slice A1 m1 c1] ∧ PartIs (f.sub 0 256) base W o0 n0 A0 m0 c0 ∧ PartIs (f.sub 256 256) base W o1 n1 A1 m1 c1
def RdOk (f : Fl) (w : World) (e : Ending) (w' : World) : Prop :=
  ∃ cs o0 n0 A0 m0 c0 o1 n1 A1 m1 c1, e = .returned (.tuple #[.agg cs, .int .i64 0]) ∧ Hid (Parts2 f w.heap.size w' cs o0 n0 A0 m0 c0 o1 n1 A1 m1 c1) ∧ Hid (Below w.heap.size w w')
theorem c6 {W : World} {g : Nat} {a b c d e f : Value} {t : TypeId} (h : W.heap[g]? = some (.cells #[a, b, c, d, e, f] t (0, 0))) : W.cell? ⟨g, 0, none⟩ = some a ∧ W.cell? ⟨g, 1, none⟩ = some b ∧ W.cell? ⟨g, 2, none⟩ = some c ∧ W.cell? ⟨g, 3, none⟩ = some d ∧ W.cell? ⟨g, 4, none⟩ = some e ∧ W.cell? ⟨g, 5, none⟩ = some f := by
  refine ⟨?_, ?_, ?_, ?_, ?_, ?_⟩ <;> (rw [cell_of_row W g _ _ _ (0, 0) h]; rfl)
theorem rd_keep {w wr w2 W3 : World} {g : Nat} {f : Fl} {t : TypeId} (hgr : w2.grownBy W3 (some (w.heap.size + 1))) (hgl : g < w.heap.size) (hf : FlAt wr g f) (hb : Below w.heap.size w wr) (hz : ∃ z, wr.heap[w.heap.size]? = some (Obj.cells z t (0, 0)) ∧ z.size = 6)
    (hsz : w.heap.size + 2 ≤ wr.heap.size) (hb2 : Below wr.heap.size wr w2) : FlAt W3 g f ∧ Below w.heap.size w W3 ∧ (∃ z, W3.heap[w.heap.size]? = some (Obj.cells z t (0, 0)) ∧ z.size = 6) ∧ w.heap.size + 2 ≤ W3.heap.size := by
  have h1 := hb.size
  have h2 := hb2.size
  refine ⟨(hf.below hb2).grown hgr (by intro h; injection h with h; omega), (hb.trans (hb2.mono hb.size)).grown hgr (by omega) (by intro q h; injection h with h; omega), ?_, Nat.le_trans hsz (Nat.le_trans h2 hgr.size)⟩
  obtain ⟨z, e1, e2⟩ := hz
  exact ⟨z, (hgr.block w.heap.size (by omega) (by simp)).trans ((hb2.block _ (by omega)).trans e1), e2⟩
end Go.Proofs.Ytekaoodagaplmaa
