/- A state, a manifest as data; what was proved of the calls, restated for them. -/
import Derived.Test.YtoclckfpbmglfaaDoorAdmitB
import Derived.Test.YtoclckfpbmglfaaDoorAdmitH
import Derived.Test.YtoclckfpbmglfaaDoorSesRH
import Derived.Test.YtoclckfpbmglfaaDoorStD
namespace Go.Proofs.YtoclckfpbmglfaaDoor
open Go.RowKit
def LSt.newer (L : LSt) (ver : Nat) : Bool := newB L.may L.act L.flo L.v0 L.v1 L.on L.m.v ver
def LSt.admitR (L : LSt) (M : LMan) : Int :=
  if (L.may && M.may) = false then 1 else if L.trial ≠ 0 then 12 else if (L.on && L.m.eqb M) = true then 8 else if L.newer M.v = false then 6 else if 4294967294 ≤ L.gen then 9 else 0
def LSt.admitted (L : LSt) (M : LMan) : LSt := { L with gen := L.gen + 1, on := true, m := M }
section
variable {w : World} {P : Nat → Prop} {cs : Array Value} {L : LSt}
theorem dropS (h : IsSt w P cs L) (hl : L.light) : Calls Tryd.prog 18 #[.agg cs] w (RetS L.drop w) := by
  obtain ⟨A0, c0, A1, c1, A, c, rfl, r0, r1, r2⟩ := h
  obtain ⟨l0, l1, l2⟩ := hl
  cases hm : L.may with
  | false =>
    refine (drop_no _ _ _ _ _ _ _ _ _ _ _ _ _ _ _ _ _ _ _ _ _ _ _ w.heap.size _ _ _ w hm r0.row r1.row r2.row (Nat.le_refl _) (by omega) (by omega) (by omega)).mono fun e w' ⟨he, hb⟩ => ?_
    refine ⟨zState, he, ?_, hb⟩
    rw [LSt.drop, hm]
    exact zero_is _ _
  | true =>
    refine (drop_yes _ _ _ _ _ _ _ _ _ _ _ _ _ _ _ _ _ _ _ _ _ _ _ w.heap.size _ _ _ w hm r0.row r1.row r2.row (Nat.le_refl _) (by omega) (by omega) (by omega)).mono fun e w' ⟨B0, d0, B1, d1, B, d, he, s0, s1, s2, hb⟩ => ?_
    refine ⟨_, he, ?_, hb⟩
    rw [LSt.drop, hm]
    exact ⟨B0, d0, B1, d1, B, d, rfl, s0.out, s1.out, s2.out⟩
def AdmitYesS (L : LSt) (M : LMan) (w : World) (e : Ending) (w' : World) : Prop := ∃ cs, e = .returned (.tuple #[.agg cs, .int .i64 0]) ∧ Hid (IsSt w' (fun b => w.heap.size ≤ b) cs (L.admitted M)) ∧ Hid (Below w.heap.size w w')
end
end Go.Proofs.YtoclckfpbmglfaaDoor
