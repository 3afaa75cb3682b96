/- The tied card of downpourlaw3.MacForms. -/
import Derived.Test.YtapjaagigjfidaaDoorMacFormsW
import Derived.Test.YtapjaagigjfidaaDoorDgLaid
namespace Go.Proofs.YtapjaagigjfidaaDoor
open Go.RowKit Go.ChangeShapes Go.WideShapes Go.ChangeAt Sh
set_option maxRecDepth 100000 in
theorem macForms_lifted (os : Os) (started : os.Started) (H : Type) (enc : TypeId × Value → H) :
    ReturnsInHanded {} Tryd.checked os 8 .any (fun w args => (Rows.macFormsSpec.pre enc Tryd.prog Tryd.f8 [] false w args ∧ laidMetH Tryd.prog L0 w) ∧ sizedMet enc Tryd.prog Tryd.f8 (OpenSpec.ofChange Rows.macFormsSpec) false w args) (Rows.macFormsSpec.post enc Tryd.prog Tryd.f8 false true false false) := by
  refine law_lift_laid (C := Tryd.checked) (tb := 4) (X := fun w _ => laidMetH Tryd.prog L0 w) (fun _ _ _ hh h => h.of_heap hh) Tryd.own started (by kernel_rfl) Tryd.func8
    (ChangeSpec.witness_shaped (enc := enc) (C := Tryd.checked) (os := os) (X := fun w _ => laidMetH Tryd.prog L0 w) false (World.doorLaid Tryd.prog 400 os) #[.slice none 0 0, .slice none 0 0, .slice none 0 0] 8 rfl (World.shaped_of_RefB (by kernel_rfl) (by kernel_rfl)) (by kernel_rfl) (by kernel_rfl) (by kernel_rfl) (door_met os _)) Tryd.laidOut (by kernel_rfl) rfl rfl Tryd.underlying4 ?_ ?_
  · intro ds hds
    match ds, hds with
    | [_, _, _], _ => rfl
  intro W base args ds p hval0 hA0 _ _ hsz0 hX0
  have hval : ∀ (j : Nat) t v, Tryd.f8.params[j]? = some t → args[j]? = some v → Value.okWide Tryd.prog W .any base t v := hval0
  have hA : DataW.TrodAll enc Tryd.prog W 0 (fun _ => true) true Tryd.f8.params.toList args.toList ds p := hA0
  rw [Tryd.params8] at hA hval
  obtain ⟨v0, v1, v2, d0, d1, d2, p0, p1, p2, rfl, rfl, rfl, h0, h1, h2⟩ := trodAll_three hA
  obtain ⟨A0, n0, cap0, l0, rfl, hrow0, hnc0, hcm0⟩ := open_bytes Tryd.underlying23 Tryd.underlying5 Tryd.cells5 (hval 0 23 v0 rfl rfl) h0
  obtain ⟨A1, n1, cap1, l1, rfl, hrow1, hnc1, hcm1⟩ := open_bytes Tryd.underlying23 Tryd.underlying5 Tryd.cells5 (hval 1 23 v1 rfl rfl) h1
  obtain ⟨A2, n2, cap2, l2, rfl, hrow2, hnc2, hcm2⟩ := open_bytes Tryd.underlying23 Tryd.underlying5 Tryd.cells5 (hval 2 23 v2 rfl rfl) h2
  exact macforms_walk A0 n0 cap0 l0 A1 n1 cap1 l1 A2 n2 cap2 l2 W (tab_of_laid hX0) hrow0 hnc0 hcm0 hrow1 hnc1 hcm1 hrow2 hnc2 hcm2

theorem macForms_holds : Rows.MacFormsSaid :=
  OpenClaim.holds_of_wide 8 Tryd.f8 rfl rfl rfl rfl rfl rfl rfl ⟨rfl, rfl, rfl, rfl, rfl⟩ rfl rfl rfl rfl rfl (by kernel_rfl) Tryd.func8 (by kernel_rfl)
    (of_decide_eq_true (by kernel_rfl)) (by unfold Func.isWrapper; rw [if_neg (of_decide_eq_false (by kernel_rfl))]; exact ⟨rfl, rfl⟩)
    (fun os started H enc _ => macForms_lifted os started H enc)

theorem macForms_card : Rows.MacFormsCardSaid :=
  Claim7.holds_tied_plain_at .later [] [.data, .data] true _ false
    macForms_holds (fun _ h => by cases h) (by kernel_rfl) (fun _ h => by cases h) macForms_row_tie rfl ⟨rfl, rfl⟩ (by kernel_rfl) rfl
    (fun f fn hf hfn => by
      obtain rfl : f = 8 := Option.some.inj ((show Tryd.prog.funcNamed "downpour/downpourlaw3.MacForms" = some 8 by kernel_rfl).symm.trans hf) |>.symm
      obtain rfl : fn = Tryd.f8 := (Option.some.inj (Tryd.func8.symm.trans hfn)).symm
      exact ⟨by kernel_rfl, fun j t ht => by
        rw [Tryd.params8] at ht
        have hm : t ∈ [23, 23, 23] := by simpa using Array.mem_of_getElem? ht
        have hall : ([23, 23, 23].all fun u => !Tryd.prog.wantsStandIn u) = true := by kernel_rfl
        exact (show Tryd.prog.wantsStandIn t = false by simpa using List.all_eq_true.1 hall t hm)⟩)
    (by kernel_rfl)
end Go.Proofs.YtapjaagigjfidaaDoor
