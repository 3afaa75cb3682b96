/- downpourlaw18.WheelKept, the row. -/
import Derived.Test.YtmlmpjokmbgmcaaRows
import Derived.Test.YtmlmpjokmbgmcaaWhKeptW
import Derived.Test.YtmlmpjokmbgmcaaLaw
import Derived.Test.YtmlmpjokmbgmcaaLawSym
import Derived.Test.YtmlmpjokmbgmcaaLawCall
import Derived.Test.YtmlmpjokmbgmcaaLawWhCall
namespace Go.Proofs.Ytmlmpjokmbgmcaa
open Go.ChangeShapes Go.WideShapes Go.ChangeAt Go.RowKit
set_option maxRecDepth 100000 in
theorem wheelKept_lifted (os : Os) (started : os.Started) (H : Type) (enc : TypeId × Value → H) :
    ReturnsInHanded {} Try.checked os 10 .any (Rows.wheelKeptSpec.pre6 enc Try.prog Try.f10 Rows.wheelKeptRow.domain false) (Rows.wheelKeptSpec.post enc Try.prog Try.f10 false true false false) := by
  refine law_lift (C := Try.checked) (tb := 4) Try.own started (by kernel_rfl) Try.func10
    (ChangeSpec.witness6 (enc := enc) (C := Try.checked) false ⟨#[], #[.int .i64 0, .slice none 0 0], []⟩ 8 (by kernel_rfl) (by kernel_rfl) (by kernel_rfl) (by kernel_rfl)) Try.laidOut (by kernel_rfl) rfl rfl Try.underlying4 ?_ ?_
  · intro ds hds
    match ds, hds with
    | [_, _], _ => rfl
  intro W base args ds p hval0 hA0 _ _ hsz0
  have hval : ∀ (j : Nat) t v, Try.f10.params[j]? = some t → args[j]? = some v → Value.okWide Try.prog W .any base t v := hval0
  have hA : DataW.TrodAll enc Try.prog W 0 (fun _ => true) true Try.f10.params.toList args.toList ds p := hA0
  rw [Try.params10] at hA hval
  obtain ⟨v0, v1, d0, d1, p0, p1, rfl, rfl, rfl, h0, h1⟩ := trodAll_two hA
  obtain ⟨x0, rfl, hx0, hy0⟩ := open_i64 Try.underlying3 (hval 0 3 v0 rfl rfl) h0
  obtain ⟨A1, n1, cap1, ys1, rfl, hys1, _, _⟩ := open_wcallrow Try.underlying54 Try.underlying63 ⟨rfl, rfl, rfl, rfl, rfl⟩ Try.underlying3 Try.underlying3 Try.underlying3 Try.underlying53 Try.underlying27 Try.underlying5 Try.cells5 ⟨by kernel_rfl, by kernel_rfl, by kernel_rfl, by kernel_rfl, by kernel_rfl⟩ (by kernel_rfl) (hval 1 54 v1 rfl rfl) h1
  exact wkept_walk x0 hx0 hy0 A1 n1 cap1 ys1 W hys1

theorem wheelKept_holds : Rows.WheelKeptSaid :=
  OpenClaim.holds_of_wide 10 Try.f10 rfl rfl rfl rfl rfl rfl rfl ⟨rfl, rfl, rfl, rfl, rfl⟩ rfl rfl rfl rfl rfl (by kernel_rfl) Try.func10 (by kernel_rfl)
    (of_decide_eq_true (by kernel_rfl)) (by unfold Func.isWrapper; rw [if_neg (of_decide_eq_false (by kernel_rfl))]; exact ⟨rfl, rfl⟩)
    (fun os started H enc _ => wheelKept_lifted os started H enc)
end Go.Proofs.Ytmlmpjokmbgmcaa
