/- PacketFits, the row. -/
import Derived.Test.YtknealemooaneadPacketFits
namespace Go.Proofs.Ytknealemooanead
open Go.ChangeShapes Go.WideShapes Go.ChangeAt Go.RowKit
set_option maxRecDepth 100000 in
theorem packetFits_lifted (os : Os) (started : os.Started) (H : Type) (enc : TypeId × Value → H) :
    ReturnsInHanded {} Try.checked os 8 .any (Rows.packetFitsSpec.pre6 enc Try.prog Try.f8 Rows.packetFitsRow.domain false) (Rows.packetFitsSpec.post enc Try.prog Try.f8 false true false false) := by
  refine law_lift (C := Try.checked) (tb := 4) Try.own started (by kernel_rfl) Try.func8
    (ChangeSpec.witness6 (enc := enc) (C := Try.checked) false ⟨#[], #[.agg #[.int .u32 0, .int .u32 0, .slice none 0 0], .agg #[.int .u32 0, .int .i64 0, .int .i64 0, .int .i64 0], .int .u32 0], []⟩ 8 (by kernel_rfl) (by kernel_rfl) (by kernel_rfl) (by kernel_rfl)) Try.laidOut (by kernel_rfl) rfl rfl Try.underlying4 ?_ ?_
  · intro ds hds
    match ds, hds with
    | [_, _, _], _ => rfl
  intro W base args ds p hval0 hA0 _ _ hsz0
  have hval : ∀ (j : Nat) t v, Try.f8.params[j]? = some t → args[j]? = some v → Value.okWide Try.prog W .any base t v := hval0
  have hA : DataW.TrodAll enc Try.prog W 0 (fun _ => true) true Try.f8.params.toList args.toList ds p := hA0
  rw [Try.params8] at hA hval
  obtain ⟨v0, v1, v2, d0, d1, d2, p0, p1, p2, rfl, rfl, rfl, h0, h1, h2⟩ := trodAll_three hA
  obtain ⟨s0, i0, A0, n0, cap0, l0, rfl, hsl0, hil0, hrow0, hnc0, hcm0⟩ := open_sym Try.underlying39 ⟨rfl, rfl, rfl⟩ Try.underlying37 Try.underlying37 Try.underlying23 Try.underlying5 Try.cells5 ⟨by kernel_rfl, by kernel_rfl, by kernel_rfl⟩ (by kernel_rfl) (hval 0 39 v0 rfl rfl) h0
  obtain ⟨s1, K1, L1, Z1, rfl, hps1, hpK1, hpL1, hpZ1⟩ := open_par Try.underlying41 ⟨rfl, rfl, rfl, rfl⟩ Try.underlying37 Try.underlying3 Try.underlying3 Try.underlying3 ⟨by kernel_rfl, by kernel_rfl, by kernel_rfl, by kernel_rfl⟩ (by kernel_rfl) (hval 1 41 v1 rfl rfl) h1
  obtain ⟨x2, rfl, hx2⟩ := open_u32 Try.underlying37 (hval 2 37 v2 rfl rfl) h2
  exact fits_walk s0 i0 A0 n0 cap0 l0 s1 K1 L1 Z1 x2 hx2 W hsl0 hil0 hrow0 hnc0 hcm0

theorem packetFits_holds : Rows.PacketFitsSaid :=
  OpenClaim.holds_of_wide 8 Try.f8 rfl rfl rfl rfl rfl rfl rfl ⟨rfl, rfl, rfl, rfl, rfl⟩ rfl rfl rfl rfl rfl (by kernel_rfl) Try.func8 (by kernel_rfl)
    (of_decide_eq_true (by kernel_rfl)) (by unfold Func.isWrapper; rw [if_neg (of_decide_eq_false (by kernel_rfl))]; exact ⟨rfl, rfl⟩)
    (fun os started H enc _ => packetFits_lifted os started H enc)
end Go.Proofs.Ytknealemooanead
