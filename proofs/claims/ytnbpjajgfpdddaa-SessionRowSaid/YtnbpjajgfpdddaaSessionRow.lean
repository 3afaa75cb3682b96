/- downpourlaw22.SessionRow, the row. -/
import Derived.Test.YtnbpjajgfpdddaaRows
import Derived.Test.YtnbpjajgfpdddaaSesRowW
import Derived.Test.YtnbpjajgfpdddaaLaw
import Derived.Test.YtnbpjajgfpdddaaLawSym
import Derived.Test.YtnbpjajgfpdddaaLawCall
import Derived.Test.YtnbpjajgfpdddaaLawState
import Derived.Test.YtnbpjajgfpdddaaLawU32s
namespace Go.Proofs.Ytnbpjajgfpdddaa
open Go.ChangeShapes Go.WideShapes Go.ChangeAt Go.RowKit
set_option maxRecDepth 100000 in
theorem sessionRow_lifted (os : Os) (started : os.Started) (H : Type) (enc : TypeId × Value → H) :
    ReturnsInHanded {} Try.checked os 10 .any (Rows.sessionRowSpec.pre6 enc Try.prog Try.f10 Rows.sessionRowRow.domain false) (Rows.sessionRowSpec.post enc Try.prog Try.f10 false true false false) := by
  refine law_lift (C := Try.checked) (tb := 4) Try.own started (by kernel_rfl) Try.func10
    (ChangeSpec.witness6 (enc := enc) (C := Try.checked) false ⟨#[], #[.slice none 0 0, .bool false], []⟩ 8 (by kernel_rfl) (by kernel_rfl) (by kernel_rfl) (by kernel_rfl)) Try.laidOut (by kernel_rfl) rfl rfl Try.underlying4 ?_ ?_
  · intro ds hds
    match ds, hds with
    | [_, _], _ => rfl
  intro W base args ds p hval0 hA0 _ _ hsz0
  have hval : ∀ (j : Nat) t v, Try.f10.params[j]? = some t → args[j]? = some v → Value.okWide Try.prog W .any base t v := hval0
  have hA : DataW.TrodAll enc Try.prog W 0 (fun _ => true) true Try.f10.params.toList args.toList ds p := hA0
  rw [Try.params10] at hA hval
  obtain ⟨v0, v1, d0, d1, p0, p1, rfl, rfl, rfl, h0, h1⟩ := trodAll_two hA
  obtain ⟨A0, n0, cap0, us0, rfl, hnc0, hcm0, hus0⟩ := open_u32s Try.underlying51 Try.underlying22 (by kernel_rfl) (hval 0 51 v0 rfl rfl) h0
  obtain ⟨x1, rfl, _, _⟩ := open_bool Try.underlying4 (hval 1 4 v1 rfl rfl) h1
  exact row_walk A0 n0 cap0 us0 x1 W hus0

theorem sessionRow_holds : Rows.SessionRowSaid :=
  OpenClaim.holds_of_wide 10 Try.f10 rfl rfl rfl rfl rfl rfl rfl ⟨rfl, rfl, rfl, rfl, rfl⟩ rfl rfl rfl rfl rfl (by kernel_rfl) Try.func10 (by kernel_rfl)
    (of_decide_eq_true (by kernel_rfl)) (by unfold Func.isWrapper; rw [if_neg (of_decide_eq_false (by kernel_rfl))]; exact ⟨rfl, rfl⟩)
    (fun os started H enc _ => sessionRow_lifted os started H enc)
end Go.Proofs.Ytnbpjajgfpdddaa
