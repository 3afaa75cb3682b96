/- downpourlaw17.CellSame, the row. -/
import Derived.Test.YtmlmpjokmbgmcaaRows
import Derived.Test.YtmlmpjokmbgmcaaCellSameW
import Derived.Test.YtmlmpjokmbgmcaaLaw
import Derived.Test.YtmlmpjokmbgmcaaLawRows
namespace Go.Proofs.Ytmlmpjokmbgmcaa
open Go.ChangeShapes Go.WideShapes Go.ChangeAt Go.RowKit
set_option maxRecDepth 100000 in
theorem cellSame_lifted (os : Os) (started : os.Started) (H : Type) (enc : TypeId × Value → H) :
    ReturnsInHanded {} Try.checked os 7 .any (Rows.cellSameSpec.pre6 enc Try.prog Try.f7 Rows.cellSameRow.domain false) (Rows.cellSameSpec.post enc Try.prog Try.f7 false true false false) := by
  refine law_lift (C := Try.checked) (tb := 4) Try.own started (by kernel_rfl) Try.func7
    (ChangeSpec.witness6 (enc := enc) (C := Try.checked) false ⟨#[], #[.slice none 0 0], []⟩ 8 (by kernel_rfl) (by kernel_rfl) (by kernel_rfl) (by kernel_rfl)) Try.laidOut (by kernel_rfl) rfl rfl Try.underlying4 ?_ ?_
  · intro ds hds
    match ds, hds with
    | [_], _ => rfl
  intro W base args ds p hval0 hA0 _ _ hsz0
  have hval : ∀ (j : Nat) t v, Try.f7.params[j]? = some t → args[j]? = some v → Value.okWide Try.prog W .any base t v := hval0
  have hA : DataW.TrodAll enc Try.prog W 0 (fun _ => true) true Try.f7.params.toList args.toList ds p := hA0
  rw [Try.params7] at hA hval
  obtain ⟨v0, d0, rfl, rfl, h0⟩ := trodAll_one hA
  obtain ⟨A0, n0, cap0, l0, rfl, hrow0, hnc0, hcm0, hbg0⟩ := open_rows Try.underlying51 Try.underlying27 Try.underlying5 (by kernel_rfl) Try.cells5 (hval 0 51 v0 rfl rfl) h0
  exact same_walk A0 n0 cap0 l0 W hrow0 hbg0.1

theorem cellSame_holds : Rows.CellSameSaid :=
  OpenClaim.holds_of_wide 7 Try.f7 rfl rfl rfl rfl rfl rfl rfl ⟨rfl, rfl, rfl, rfl, rfl⟩ rfl rfl rfl rfl rfl (by kernel_rfl) Try.func7 (by kernel_rfl)
    (of_decide_eq_true (by kernel_rfl)) (by unfold Func.isWrapper; rw [if_neg (of_decide_eq_false (by kernel_rfl))]; exact ⟨rfl, rfl⟩)
    (fun os started H enc _ => cellSame_lifted os started H enc)
end Go.Proofs.Ytmlmpjokmbgmcaa
