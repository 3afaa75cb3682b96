/- downpourlaw19.StateBack, the row. -/
import Derived.Test.YtnbpjajgfpdddaaRows
import Derived.Test.YtnbpjajgfpdddaaStBackW
import Derived.Test.YtnbpjajgfpdddaaLaw
import Derived.Test.YtnbpjajgfpdddaaLawSym
import Derived.Test.YtnbpjajgfpdddaaLawCall
import Derived.Test.YtnbpjajgfpdddaaLawState
namespace Go.Proofs.Ytnbpjajgfpdddaa
open Go.ChangeShapes Go.WideShapes Go.ChangeAt Go.RowKit
set_option maxRecDepth 100000 in
theorem stateBack_lifted (os : Os) (started : os.Started) (H : Type) (enc : TypeId × Value → H) :
    ReturnsInHanded {} Try.checked os 4 .any (Rows.stateBackSpec.pre6 enc Try.prog Try.f4 Rows.stateBackRow.domain false) (Rows.stateBackSpec.post enc Try.prog Try.f4 false true false false) := by
  refine law_lift (C := Try.checked) (tb := 4) Try.own started (by kernel_rfl) Try.func4
    (ChangeSpec.witness6 (enc := enc) (C := Try.checked) false ⟨#[], #[.agg #[.int .i64 0, .int .i64 0, .int .u32 0, .int .u32 0, .int .u32 0, .int .i64 0, .slice none 0 0, .int .u32 0, .int .i64 0, .slice none 0 0, .bool false, .int .u32 0, .int .u32 0, .int .i64 0, .int .i64 0, .int .i64 0, .slice none 0 0], .agg #[.int .i64 0, .int .i64 0, .int .u32 0, .int .u32 0, .int .u32 0, .int .i64 0, .slice none 0 0, .int .u32 0, .int .i64 0, .slice none 0 0, .bool false, .int .u32 0, .int .u32 0, .int .i64 0, .int .i64 0, .int .i64 0, .slice none 0 0], .slice none 0 0], []⟩ 8 (by kernel_rfl) (by kernel_rfl) (by kernel_rfl) (by kernel_rfl)) Try.laidOut (by kernel_rfl) rfl rfl Try.underlying4 ?_ ?_
  · intro ds hds
    match ds, hds with
    | [_, _, _], _ => rfl
  intro W base args ds p hval0 hA0 _ _ hsz0
  have hval : ∀ (j : Nat) t v, Try.f4.params[j]? = some t → args[j]? = some v → Value.okWide Try.prog W .any base t v := hval0
  have hA : DataW.TrodAll enc Try.prog W 0 (fun _ => true) true Try.f4.params.toList args.toList ds p := hA0
  rw [Try.params4] at hA hval
  obtain ⟨v0, v1, v2, d0, d1, d2, p0, p1, p2, rfl, rfl, rfl, h0, h1, h2⟩ := trodAll_three hA
  obtain ⟨act0, trial0, flo0, gen0, va0, la0, Aa0, na0, ca0, ha0, vb0, lb0, Ab0, nb0, cb0, hb0, on0, s0, u0, l0, z0, p0, A0, n0, c0, h_0, rfl, k1_0, k2_0, k3_0, k4_0, k5_0, k6_0, k7_0, k8_0, k9_0, k10_0, k11_0, k12_0, k13_0, k14_0, k15_0, k16_0⟩ := open_state (hval 0 30 v0 rfl rfl) h0
  obtain ⟨act1, trial1, flo1, gen1, va1, la1, Aa1, na1, ca1, ha1, vb1, lb1, Ab1, nb1, cb1, hb1, on1, s1, u1, l1, z1, p1, A1, n1, c1, h_1, rfl, k1_1, k2_1, k3_1, k4_1, k5_1, k6_1, k7_1, k8_1, k9_1, k10_1, k11_1, k12_1, k13_1, k14_1, k15_1, k16_1⟩ := open_state (hval 1 30 v1 rfl rfl) h1
  obtain ⟨A2, n2, cap2, l2, rfl, hrow2, hnc2, hcm2⟩ := open_bytes Try.underlying23 Try.underlying5 Try.cells5 (hval 2 23 v2 rfl rfl) h2
  exact stback_walk _ _ _ _ A2 n2 cap2 l2 W (st_in k7_0.1 k10_0.1 k16_0.1) (st_in k7_1.1 k10_1.1 k16_1.1) ⟨k3_0, k4_0, k5_0, k8_0, k11_0, k12_0⟩ ⟨k3_1, k4_1, k5_1, k8_1, k11_1, k12_1⟩ hrow2 hnc2 hcm2

theorem stateBack_holds : Rows.StateBackSaid :=
  OpenClaim.holds_of_wide 4 Try.f4 rfl rfl rfl rfl rfl rfl rfl ⟨rfl, rfl, rfl, rfl, rfl⟩ rfl rfl rfl rfl rfl (by kernel_rfl) Try.func4 (by kernel_rfl)
    (of_decide_eq_true (by kernel_rfl)) (by unfold Func.isWrapper; rw [if_neg (of_decide_eq_false (by kernel_rfl))]; exact ⟨rfl, rfl⟩)
    (fun os started H enc _ => stateBack_lifted os started H enc)
end Go.Proofs.Ytnbpjajgfpdddaa
