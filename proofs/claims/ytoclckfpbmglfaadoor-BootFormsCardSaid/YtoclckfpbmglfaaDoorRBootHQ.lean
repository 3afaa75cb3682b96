/- The reference's Drop, Start, Confirm, Activate: by contracts, states as data. -/
import Derived.Test.YtoclckfpbmglfaaDoorRAdmQ
import Derived.Test.YtoclckfpbmglfaaDoorBootAQ
import Derived.Test.YtoclckfpbmglfaaDoorBootCQ
import Derived.Test.YtoclckfpbmglfaaDoorBootBMQ
namespace Go.Proofs.YtoclckfpbmglfaaDoor
open Go.RowKit
def RetR (L : LSt) (v : Value) (w : World) (e : Ending) (w' : World) : Prop := ∃ cs, e = .returned (.tuple #[.agg cs, v]) ∧ Hid (IsSt w' (fun _ => True) cs L) ∧ Hid (Below w.heap.size w w')
/-- told in the memory that was handed in -/
def RetQ (L : LSt) (P : Nat → Prop) (w : World) (e : Ending) (w' : World) : Prop := ∃ cs, e = .returned (.agg cs) ∧ Hid (IsSt w P cs L) ∧ Hid (Below w.heap.size w w')
theorem IsSt.setOff {w : World} {P : Nat → Prop} {cs : Array Value} {L : LSt} (h : IsSt w P cs L) : IsSt w P (((((((cs.setIfInBounds 10 (.bool false)).setIfInBounds 11 (.int .u32 0)).setIfInBounds 12 (.int .u32 0)).setIfInBounds 13 (.int .i64 0)).setIfInBounds 14 (.int .i64 0)).setIfInBounds 15 (.int .i64 0)).setIfInBounds 16 (.slice none 0 0)) { L with on := false, m := LMan.zero } := by
  obtain ⟨A0, c0, A1, c1, A, c, rfl, r0, r1, r2⟩ := h
  exact ⟨A0, c0, A1, c1, none, 0, by simp only [LSt.cells, List.setIfInBounds_toArray, List.set_cons_zero, List.set_cons_succ, LMan.zero]; rfl, r0, r1, .nil _ _ _⟩
theorem IsSt.setS0 {w : World} {P : Nat → Prop} {cs : Array Value} {L : LSt} (h : IsSt w P cs L) {A : Option Addr} {c : Nat} (r : RowP w P A L.m.h.length (bv L.m.h)) : IsSt w P (((cs.setIfInBounds 4 (.int .u32 (L.m.v : Int))).setIfInBounds 5 (.int .i64 L.m.l)).setIfInBounds 6 (.slice A L.m.h.length c)) { L with v0 := L.m.v, l0 := L.m.l, h0 := L.m.h } := by
  obtain ⟨A0, c0, A1, c1, A', c', rfl, r0, r1, r2⟩ := h
  exact ⟨A, c, A1, c1, A', c', rfl, r, r1, r2⟩
theorem IsSt.setS1 {w : World} {P : Nat → Prop} {cs : Array Value} {L : LSt} (h : IsSt w P cs L) {A : Option Addr} {c : Nat} (r : RowP w P A L.m.h.length (bv L.m.h)) : IsSt w P (((cs.setIfInBounds 7 (.int .u32 (L.m.v : Int))).setIfInBounds 8 (.int .i64 L.m.l)).setIfInBounds 9 (.slice A L.m.h.length c)) { L with v1 := L.m.v, l1 := L.m.l, h1 := L.m.h } := by
  obtain ⟨A0, c0, A1, c1, A', c', rfl, r0, r1, r2⟩ := h
  exact ⟨A0, c0, A, c, A', c', rfl, r0, r, r2⟩
end Go.Proofs.YtoclckfpbmglfaaDoor
