/- The tied card of downpourlaw26.CarouselForms. -/
import Derived.Test.YtidcnoejihjgjaaGreatDoorRows
import Derived.Test.YtidcnoejihjgjaaGreatDoorCarForWQF
import Derived.Test.YtidcnoejihjgjaaGreatDoorZHQF
import Derived.Test.YtidcnoejihjgjaaGreatDoorZZCQF
namespace Go.Proofs.YtidcnoejihjgjaaGreatDoor
open Go.RowKit Go.ChangeShapes Go.WideShapes Go.ChangeAt Car
set_option maxRecDepth 100000 in
theorem carouselForms_lifted (os : Os) (started : os.Started) (H : Type) (enc : TypeId × Value → H) :
    ReturnsInHanded {} Tryz.checked os 3 .any (fun w args => (Rows.carouselFormsSpec.pre enc Tryz.prog Tryz.f3 [] false w args ∧ laidMetH Tryz.prog LB w) ∧ sizedMet enc Tryz.prog Tryz.f3 (OpenSpec.ofChange Rows.carouselFormsSpec) false w args) (Rows.carouselFormsSpec.post enc Tryz.prog Tryz.f3 false true false false) := by
  refine law_lift_laid (C := Tryz.checked) (tb := 4) (X := fun w _ => laidMetH Tryz.prog LB w) (fun _ _ _ hh h => h.of_heap hh) Tryz.own started (by kernel_rfl) Tryz.func3
    (ChangeSpec.witness_shaped (enc := enc) (C := Tryz.checked) (os := os) (X := fun w _ => laidMetH Tryz.prog LB w) false (World.doorLaid Tryz.prog 400 os) #[.slice none 0 0, .int .u32 0, .int .u32 0, .slice none 0 0, .int .i64 0, .int .i64 0, .int .u32 0, .slice none 0 0] 8 rfl (World.shaped_of_RefB (by kernel_rfl) (by kernel_rfl)) (by kernel_rfl) (by kernel_rfl) (by kernel_rfl) (door_metB os _)) Tryz.laidOut (by kernel_rfl) rfl rfl Tryz.underlying4 ?_ ?_
  · intro ds hds
    match ds, hds with
    | [_, _, _, _, _, _, _, _], _ => rfl
  intro W base args ds p hval0 hA0 _ _ hsz0 hX0
  have hval : ∀ (j : Nat) t v, Tryz.f3.params[j]? = some t → args[j]? = some v → Value.okWide Tryz.prog W .any base t v := hval0
  have hA : DataW.TrodAll enc Tryz.prog W 0 (fun _ => true) true Tryz.f3.params.toList args.toList ds p := hA0
  rw [Tryz.params3] at hA hval
  obtain ⟨v0, vs0, d0, ds0, p0, q0, hargs0, hds0, hps0, h0, r0⟩ := trodAll_cons hA
  obtain ⟨v1, vs1, d1, ds1, p1, q1, hargs1, hds1, hps1, h1, r1⟩ := trodAll_cons r0
  obtain ⟨v2, vs2, d2, ds2, p2, q2, hargs2, hds2, hps2, h2, r2⟩ := trodAll_cons r1
  obtain ⟨v3, vs3, d3, ds3, p3, q3, hargs3, hds3, hps3, h3, r3⟩ := trodAll_cons r2
  obtain ⟨v4, vs4, d4, ds4, p4, q4, hargs4, hds4, hps4, h4, r4⟩ := trodAll_cons r3
  obtain ⟨v5, vs5, d5, ds5, p5, q5, hargs5, hds5, hps5, h5, r5⟩ := trodAll_cons r4
  obtain ⟨v6, vs6, d6, ds6, p6, q6, hargs6, hds6, hps6, h6, r6⟩ := trodAll_cons r5
  obtain ⟨v7, vs7, d7, ds7, p7, q7, hargs7, hds7, hps7, h7, r7⟩ := trodAll_cons r6
  obtain ⟨e1, _, _⟩ := trodAll_nil r7
  obtain rfl : args = #[v0, v1, v2, v3, v4, v5, v6, v7] := by cases args; simp_all
  obtain ⟨A0, n0, cap0, l0, rfl, hrow0, hnc0, hcm0⟩ := open_bytes Tryz.underlying22 Tryz.underlying5 Tryz.cells5 (hval 0 22 v0 rfl rfl) h0
  obtain ⟨x1, rfl, hx1⟩ := open_u32 Tryz.underlying23 (hval 1 23 v1 rfl rfl) h1
  obtain ⟨x2, rfl, hx2⟩ := open_u32 Tryz.underlying23 (hval 2 23 v2 rfl rfl) h2
  obtain ⟨A3, n3, cap3, l3, rfl, hrow3, hnc3, hcm3⟩ := open_bytes Tryz.underlying22 Tryz.underlying5 Tryz.cells5 (hval 3 22 v3 rfl rfl) h3
  obtain ⟨x4, rfl, hx4, hy4⟩ := open_i64 Tryz.underlying3 (hval 4 3 v4 rfl rfl) h4
  obtain ⟨x5, rfl, hx5, hy5⟩ := open_i64 Tryz.underlying3 (hval 5 3 v5 rfl rfl) h5
  obtain ⟨x6, rfl, hx6⟩ := open_u32 Tryz.underlying23 (hval 6 23 v6 rfl rfl) h6
  obtain ⟨A7, n7, cap7, us7, rfl, hnc7, hcm7, hus7⟩ := open_u32s Tryz.underlying24 Tryz.underlying23 (by kernel_rfl) (hval 7 24 v7 rfl rfl) h7
  exact Car.carforms_walk A0 n0 cap0 l0 x1 x2 A3 n3 cap3 l3 x4 x5 x6 A7 n7 cap7 us7 W (tabs_of_laid hX0).1 (tabs_of_laid hX0).2 hrow0 hrow3 hnc3 hcm3 hnc7 hcm7 (by omega) (by omega) (by omega) hus7

theorem carouselForms_holds : Rows.CarouselFormsSaid :=
  OpenClaim.holds_of_wide 3 Tryz.f3 rfl rfl rfl rfl rfl rfl rfl ⟨rfl, rfl, rfl, rfl, rfl⟩ rfl rfl rfl rfl rfl (by kernel_rfl) Tryz.func3 (by kernel_rfl)
    (of_decide_eq_true (by kernel_rfl)) (by unfold Func.isWrapper; rw [if_neg (of_decide_eq_false (by kernel_rfl))]; exact ⟨rfl, rfl⟩)
    (fun os started H enc _ => carouselForms_lifted os started H enc)

theorem carouselForms_card : Rows.CarouselFormsCardSaid :=
  Claim7.holds_tied_plain_at .later [] [.data, .data, .data] true _ false
    carouselForms_holds (fun _ h => by cases h) (by kernel_rfl) (fun _ h => by cases h) carouselForms_row_tie rfl ⟨rfl, rfl⟩ (by kernel_rfl) rfl
    (fun f fn hf hfn => by
      obtain rfl : f = 3 := Option.some.inj ((show Tryz.prog.funcNamed "downpour/downpourlaw26.CarouselForms" = some 3 by kernel_rfl).symm.trans hf) |>.symm
      obtain rfl : fn = Tryz.f3 := (Option.some.inj (Tryz.func3.symm.trans hfn)).symm
      exact ⟨by kernel_rfl, fun j t ht => by
        rw [Tryz.params3] at ht
        have hm : t ∈ [22, 23, 23, 22, 3, 3, 23, 24] := by simpa using Array.mem_of_getElem? ht
        have hall : ([22, 23, 23, 22, 3, 3, 23, 24].all fun u => !Tryz.prog.wantsStandIn u) = true := by kernel_rfl
        exact (show Tryz.prog.wantsStandIn t = false by simpa using List.all_eq_true.1 hall t hm)⟩)
    (by kernel_rfl)
end Go.Proofs.YtidcnoejihjgjaaGreatDoor
