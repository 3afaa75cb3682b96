/- CrcForms, the row. -/
import Derived.Test.YtcnjhpbakommbaaCrcForms
namespace Go.Proofs.Ytcnjhpbakommbaa
open Go.ChangeShapes Go.WideShapes Go.ChangeAt Go.RowKit
set_option maxRecDepth 100000 in
theorem crcForms_lifted (os : Os) (started : os.Started) (H : Type) (enc : TypeId × Value → H) :
    ReturnsInHanded {} Try.checked os 3 .any (Rows.crcFormsSpec.pre6 enc Try.prog Try.f3 Rows.crcFormsRow.domain false) (Rows.crcFormsSpec.post enc Try.prog Try.f3 false true false false) := by
  refine law_lift (C := Try.checked) (tb := 4) Try.own started (by kernel_rfl) Try.func3
    (ChangeSpec.witness6 (enc := enc) (C := Try.checked) false ⟨#[], #[.slice none 0 0, .slice none 0 0], []⟩ 8 (by kernel_rfl) (by kernel_rfl) (by kernel_rfl) (by kernel_rfl)) Try.laidOut (by kernel_rfl) rfl rfl Try.underlying4 ?_ ?_
  · intro ds hds
    match ds, hds with
    | [_, _], _ => rfl
  intro W base args ds p hval0 hA0 _ _ hsz0
  have hval : ∀ (j : Nat) t v, Try.f3.params[j]? = some t → args[j]? = some v → Value.okWide Try.prog W .any base t v := hval0
  have hA : DataW.TrodAll enc Try.prog W 0 (fun _ => true) true Try.f3.params.toList args.toList ds p := hA0
  rw [Try.params3] at hA hval
  obtain ⟨v0, v1, d0, d1, p0, p1, rfl, rfl, rfl, h0, h1⟩ := trodAll_two hA
  have hsz : (DataW.weightsEach Try.prog Try.f3.params.toList _).all (· ≤ reachBytes) = true := hsz0
  rw [Try.params3] at hsz
  obtain ⟨hz0, hy0⟩ := weights_cons hsz
  obtain ⟨hz1, hy1⟩ := weights_cons hy0
  -- rw
  obtain ⟨A0, n0, cap0, l0, rfl, hrow0, hnc0, hcm0, hrb0⟩ := open_rbytes Try.underlying22 Try.underlying5 Try.cells5 (hval 0 22 v0 rfl rfl) h0
  have hrr0 := hrb0 (by kernel_rfl) hz0
  obtain ⟨A1, n1, cap1, l1, rfl, hrow1, hnc1, hcm1, hrb1⟩ := open_rbytes Try.underlying22 Try.underlying5 Try.cells5 (hval 1 22 v1 rfl rfl) h1
  have hrr1 := hrb1 (by kernel_rfl) hz1
  exact forms_walk A0 n0 cap0 l0 A1 n1 cap1 l1 W hrow0 hnc0 hcm0 hrr0 hrow1 hnc1 hcm1 hrr1

theorem crcForms_holds : Rows.CrcFormsSaid :=
  OpenClaim.holds_of_wide 3 Try.f3 rfl rfl rfl rfl rfl rfl rfl ⟨rfl, rfl, rfl, rfl, rfl⟩ rfl rfl rfl rfl rfl (by kernel_rfl) Try.func3 (by kernel_rfl)
    (of_decide_eq_true (by kernel_rfl)) (by unfold Func.isWrapper; rw [if_neg (of_decide_eq_false (by kernel_rfl))]; exact ⟨rfl, rfl⟩)
    (fun os started H enc _ => crcForms_lifted os started H enc)
end Go.Proofs.Ytcnjhpbakommbaa
