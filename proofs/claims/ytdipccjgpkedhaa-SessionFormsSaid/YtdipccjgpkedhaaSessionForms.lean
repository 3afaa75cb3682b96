/- downpourlaw22.SessionForms, the row. -/
import Derived.Test.YtdipccjgpkedhaaRows
import Derived.Test.YtdipccjgpkedhaaSesFW
import Derived.Test.YtdipccjgpkedhaaLaw
import Derived.Test.YtdipccjgpkedhaaLawSym
import Derived.Test.YtdipccjgpkedhaaLawCall
import Derived.Test.YtdipccjgpkedhaaLawState
namespace Go.Proofs.Ytdipccjgpkedhaa
open Go.ChangeShapes Go.WideShapes Go.ChangeAt Go.RowKit
set_option maxRecDepth 100000 in
theorem sessionForms_lifted (os : Os) (started : os.Started) (H : Type) (enc : TypeId × Value → H) :
    ReturnsInHanded {} Try.checked os 4 .any (Rows.sessionFormsSpec.pre6 enc Try.prog Try.f4 Rows.sessionFormsRow.domain false) (Rows.sessionFormsSpec.post enc Try.prog Try.f4 false true false false) := by
  refine law_lift (C := Try.checked) (tb := 4) Try.own started (by kernel_rfl) Try.func4
    (ChangeSpec.witness6 (enc := enc) (C := Try.checked) false ⟨#[], #[.agg #[.int .i64 0, .int .i64 0, .int .u32 0, .int .u32 0, .int .u32 0, .int .i64 0, .slice none 0 0, .int .u32 0, .int .i64 0, .slice none 0 0, .bool false, .int .u32 0, .int .u32 0, .int .i64 0, .int .i64 0, .int .i64 0, .slice none 0 0], .agg #[.int .u32 0, .int .u32 0, .int .i64 0, .int .i64 0, .int .i64 0, .slice none 0 0], .int .u32 0], []⟩ 8 (by kernel_rfl) (by kernel_rfl) (by kernel_rfl) (by kernel_rfl)) Try.laidOut (by kernel_rfl) rfl rfl Try.underlying4 ?_ ?_
  · intro ds hds
    match ds, hds with
    | [_, _, _], _ => rfl
  intro W base args ds p hval0 hA0 _ _ hsz0
  have hval : ∀ (j : Nat) t v, Try.f4.params[j]? = some t → args[j]? = some v → Value.okWide Try.prog W .any base t v := hval0
  have hA : DataW.TrodAll enc Try.prog W 0 (fun _ => true) true Try.f4.params.toList args.toList ds p := hA0
  rw [Try.params4] at hA hval
  obtain ⟨v0, v1, v2, d0, d1, d2, p0, p1, p2, rfl, rfl, rfl, h0, h1, h2⟩ := trodAll_three hA
  obtain ⟨act0, trial0, flo0, gen0, va0, la0, Aa0, na0, ca0, ha0, vb0, lb0, Ab0, nb0, cb0, hb0, on0, s0, u0, l0, z0, p0, A0, n0, c0, h_0, rfl, k1_0, k2_0, k3_0, k4_0, k5_0, k6_0, k7_0, k8_0, k9_0, k10_0, k11_0, k12_0, k13_0, k14_0, k15_0, k16_0⟩ := open_state (hval 0 30 v0 rfl rfl) h0
  obtain ⟨ms1, mv1, ml1, mz1, mp1, MA1, mn1, mc1, mh1, rfl, j1_1, j2_1, j3_1, j4_1, j5_1, j6_1⟩ := open_man (hval 1 28 v1 rfl rfl) h1
  obtain ⟨x2, rfl, hx2⟩ := open_u32 Try.underlying22 (hval 2 22 v2 rfl rfl) h2
  exact sforms_walk _ _ _ _ _ W (st_in k7_0.1 k10_0.1 k16_0.1) (man_in j6_1.1)

theorem sessionForms_holds : Rows.SessionFormsSaid :=
  OpenClaim.holds_of_wide 4 Try.f4 rfl rfl rfl rfl rfl rfl rfl ⟨rfl, rfl, rfl, rfl, rfl⟩ rfl rfl rfl rfl rfl (by kernel_rfl) Try.func4 (by kernel_rfl)
    (of_decide_eq_true (by kernel_rfl)) (by unfold Func.isWrapper; rw [if_neg (of_decide_eq_false (by kernel_rfl))]; exact ⟨rfl, rfl⟩)
    (fun os started H enc _ => sessionForms_lifted os started H enc)
end Go.Proofs.Ytdipccjgpkedhaa
