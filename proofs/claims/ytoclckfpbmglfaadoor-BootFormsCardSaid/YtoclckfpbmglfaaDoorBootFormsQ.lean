/- The tied card of downpourlaw21.BootForms. -/
import Derived.Test.YtoclckfpbmglfaaDoorBForWQ
import Derived.Test.YtoclckfpbmglfaaDoorDgLaidQ
import Derived.Test.YtoclckfpbmglfaaDoorLawQ
import Derived.Test.YtoclckfpbmglfaaDoorLawCallQ
import Derived.Test.YtoclckfpbmglfaaDoorLawStateQ
namespace Go.Proofs.YtoclckfpbmglfaaDoor
open Go.RowKit Go.ChangeShapes Go.WideShapes Go.ChangeAt Sh
set_option maxRecDepth 100000 in
theorem bootForms_lifted (os : Os) (started : os.Started) (H : Type) (enc : TypeId × Value → H) :
    ReturnsInHanded {} Tryd.checked os 4 .any (fun w args => (Rows.bootFormsSpec.pre enc Tryd.prog Tryd.f4 [] false w args ∧ laidMetH Tryd.prog L0 w) ∧ sizedMet enc Tryd.prog Tryd.f4 (OpenSpec.ofChange Rows.bootFormsSpec) false w args) (Rows.bootFormsSpec.post enc Tryd.prog Tryd.f4 false true false false) := by
  refine law_lift_laid (C := Tryd.checked) (tb := 4) (X := fun w _ => laidMetH Tryd.prog L0 w) (fun _ _ _ hh h => h.of_heap hh) Tryd.own started (by kernel_rfl) Tryd.func4
    (ChangeSpec.witness_shaped (enc := enc) (C := Tryd.checked) (os := os) (X := fun w _ => laidMetH Tryd.prog L0 w) false (World.doorLaid Tryd.prog 400 os) #[.agg #[.int .i64 0, .int .i64 0, .int .u32 0, .int .u32 0, .int .u32 0, .int .i64 0, .slice none 0 0, .int .u32 0, .int .i64 0, .slice none 0 0, .bool false, .int .u32 0, .int .u32 0, .int .i64 0, .int .i64 0, .int .i64 0, .slice none 0 0], .int .u32 0, .slice none 0 0] 8 rfl (World.shaped_of_RefB (by kernel_rfl) (by kernel_rfl)) (by kernel_rfl) (by kernel_rfl) (by kernel_rfl) (door_met os _)) Tryd.laidOut (by kernel_rfl) rfl rfl Tryd.underlying4 ?_ ?_
  · intro ds hds
    match ds, hds with
    | [_, _, _], _ => rfl
  intro W base args ds p hval0 hA0 _ _ hsz0 hX0
  have hval : ∀ (j : Nat) t v, Tryd.f4.params[j]? = some t → args[j]? = some v → Value.okWide Tryd.prog W .any base t v := hval0
  have hA : DataW.TrodAll enc Tryd.prog W 0 (fun _ => true) true Tryd.f4.params.toList args.toList ds p := hA0
  rw [Tryd.params4] at hA hval
  obtain ⟨v0, v1, v2, d0, d1, d2, p0, p1, p2, rfl, rfl, rfl, h0, h1, h2⟩ := trodAll_three hA
  obtain ⟨act0, trial0, flo0, gen0, va0, la0, Aa0, na0, ca0, ha0, vb0, lb0, Ab0, nb0, cb0, hb0, on0, s0, u0, l0, z0, p0, A0, n0, c0, h_0, rfl, k1_0, k2_0, k3_0, k4_0, k5_0, k6_0, k7_0, k8_0, k9_0, k10_0, k11_0, k12_0, k13_0, k14_0, k15_0, k16_0⟩ := open_state (hval 0 30 v0 rfl rfl) h0
  obtain ⟨x1, rfl, hx1⟩ := open_u32 Tryd.underlying22 (hval 1 22 v1 rfl rfl) h1
  obtain ⟨A2, n2, cap2, l2, rfl, hrow2, hnc2, hcm2⟩ := open_bytes Tryd.underlying23 Tryd.underlying5 Tryd.cells5 (hval 2 23 v2 rfl rfl) h2
  exact bforms_walk _ _ _ _ _ _ _ W (tab_of_laid hX0) (st_in k7_0.1 k10_0.1 k16_0.1) hrow2

theorem bootForms_holds : Rows.BootFormsSaid :=
  OpenClaim.holds_of_wide 4 Tryd.f4 rfl rfl rfl rfl rfl rfl rfl ⟨rfl, rfl, rfl, rfl, rfl⟩ rfl rfl rfl rfl rfl (by kernel_rfl) Tryd.func4 (by kernel_rfl)
    (of_decide_eq_true (by kernel_rfl)) (by unfold Func.isWrapper; rw [if_neg (of_decide_eq_false (by kernel_rfl))]; exact ⟨rfl, rfl⟩)
    (fun os started H enc _ => bootForms_lifted os started H enc)

theorem bootForms_card : Rows.BootFormsCardSaid :=
  Claim7.holds_tied_plain_at .later [] [.data, .data] true _ false
    bootForms_holds (fun _ h => by cases h) (by kernel_rfl) (fun _ h => by cases h) bootForms_row_tie rfl ⟨rfl, rfl⟩ (by kernel_rfl) rfl
    (fun f fn hf hfn => by
      obtain rfl : f = 4 := Option.some.inj ((show Tryd.prog.funcNamed "downpour/downpourlaw21.BootForms" = some 4 by kernel_rfl).symm.trans hf) |>.symm
      obtain rfl : fn = Tryd.f4 := (Option.some.inj (Tryd.func4.symm.trans hfn)).symm
      exact ⟨by kernel_rfl, fun j t ht => by
        rw [Tryd.params4] at ht
        have hm : t ∈ [30, 22, 23] := by simpa using Array.mem_of_getElem? ht
        have hall : ([30, 22, 23].all fun u => !Tryd.prog.wantsStandIn u) = true := by kernel_rfl
        exact (show Tryd.prog.wantsStandIn t = false by simpa using List.all_eq_true.1 hall t hm)⟩)
    (by kernel_rfl)
end Go.Proofs.YtoclckfpbmglfaaDoor
