/- The tied card of downpourlaw14.ManifestForms. -/
import Derived.Test.YtcgcmfhidolohaaDoorMFormWQ
import Derived.Test.YtcgcmfhidolohaaDoorDgLaidQ
import Derived.Test.YtcgcmfhidolohaaDoorLawQ
import Derived.Test.YtcgcmfhidolohaaDoorLawCallQ
import Derived.Test.YtcgcmfhidolohaaDoorLawStateQ
namespace Go.Proofs.YtcgcmfhidolohaaDoor
open Go.RowKit Go.ChangeShapes Go.WideShapes Go.ChangeAt Sh
set_option maxRecDepth 100000 in
theorem manifestForms_lifted (os : Os) (started : os.Started) (H : Type) (enc : TypeId × Value → H) :
    ReturnsInHanded {} Tryd.checked os 3 .any (fun w args => (Rows.manifestFormsSpec.pre enc Tryd.prog Tryd.f3 [] false w args ∧ laidMetH Tryd.prog L0 w) ∧ sizedMet enc Tryd.prog Tryd.f3 (OpenSpec.ofChange Rows.manifestFormsSpec) false w args) (Rows.manifestFormsSpec.post enc Tryd.prog Tryd.f3 false true false false) := by
  refine law_lift_laid (C := Tryd.checked) (tb := 4) (X := fun w _ => laidMetH Tryd.prog L0 w) (fun _ _ _ hh h => h.of_heap hh) Tryd.own started (by kernel_rfl) Tryd.func3
    (ChangeSpec.witness_shaped (enc := enc) (C := Tryd.checked) (os := os) (X := fun w _ => laidMetH Tryd.prog L0 w) false (World.doorLaid Tryd.prog 400 os) #[.agg #[.int .u32 0, .int .u32 0, .int .i64 0, .int .i64 0, .int .i64 0, .slice none 0 0], .agg #[.int .u32 0, .int .u32 0, .int .i64 0, .int .i64 0, .int .i64 0, .slice none 0 0], .slice none 0 0, .slice none 0 0, .int .i64 0, .int .u8 0] 8 rfl (World.shaped_of_RefB (by kernel_rfl) (by kernel_rfl)) (by kernel_rfl) (by kernel_rfl) (by kernel_rfl) (door_met os _)) Tryd.laidOut (by kernel_rfl) rfl rfl Tryd.underlying4 ?_ ?_
  · intro ds hds
    match ds, hds with
    | [_, _, _, _, _, _], _ => rfl
  intro W base args ds p hval0 hA0 _ _ hsz0 hX0
  have hval : ∀ (j : Nat) t v, Tryd.f3.params[j]? = some t → args[j]? = some v → Value.okWide Tryd.prog W .any base t v := hval0
  have hA : DataW.TrodAll enc Tryd.prog W 0 (fun _ => true) true Tryd.f3.params.toList args.toList ds p := hA0
  rw [Tryd.params3] at hA hval
  obtain ⟨v0, vs0, d0, ds0, p0, q0, hargs0, hds0, hps0, h0, r0⟩ := trodAll_cons hA
  obtain ⟨v1, vs1, d1, ds1, p1, q1, hargs1, hds1, hps1, h1, r1⟩ := trodAll_cons r0
  obtain ⟨v2, vs2, d2, ds2, p2, q2, hargs2, hds2, hps2, h2, r2⟩ := trodAll_cons r1
  obtain ⟨v3, vs3, d3, ds3, p3, q3, hargs3, hds3, hps3, h3, r3⟩ := trodAll_cons r2
  obtain ⟨v4, vs4, d4, ds4, p4, q4, hargs4, hds4, hps4, h4, r4⟩ := trodAll_cons r3
  obtain ⟨v5, vs5, d5, ds5, p5, q5, hargs5, hds5, hps5, h5, r5⟩ := trodAll_cons r4
  obtain ⟨e1, _, _⟩ := trodAll_nil r5
  obtain rfl : args = #[v0, v1, v2, v3, v4, v5] := by cases args; simp_all
  obtain ⟨ms0, mv0, ml0, mz0, mp0, MA0, mn0, mc0, mh0, rfl, j1_0, j2_0, j3_0, j4_0, j5_0, j6_0⟩ := open_man (hval 0 25 v0 rfl rfl) h0
  obtain ⟨ms1, mv1, ml1, mz1, mp1, MA1, mn1, mc1, mh1, rfl, j1_1, j2_1, j3_1, j4_1, j5_1, j6_1⟩ := open_man (hval 1 25 v1 rfl rfl) h1
  obtain ⟨A2, n2, cap2, l2, rfl, hrow2, hnc2, hcm2⟩ := open_bytes Tryd.underlying23 Tryd.underlying5 Tryd.cells5 (hval 2 23 v2 rfl rfl) h2
  obtain ⟨A3, n3, cap3, l3, rfl, hrow3, hnc3, hcm3⟩ := open_bytes Tryd.underlying23 Tryd.underlying5 Tryd.cells5 (hval 3 23 v3 rfl rfl) h3
  obtain ⟨x4, rfl, hx4, hy4⟩ := open_i64 Tryd.underlying3 (hval 4 3 v4 rfl rfl) h4
  obtain ⟨x5, rfl⟩ := open_byte Tryd.underlying5 (hval 5 5 v5 rfl rfl) h5
  exact mforms_walk _ _ _ _ A2 n2 cap2 l2 A3 n3 cap3 l3 x4 x5 W (tab_of_laid hX0) (man_in j6_0.1) (man_in j6_1.1) ⟨j1_0, j2_0⟩ hrow2 hrow3 hnc3 hcm3

theorem manifestForms_holds : Rows.ManifestFormsSaid :=
  OpenClaim.holds_of_wide 3 Tryd.f3 rfl rfl rfl rfl rfl rfl rfl ⟨rfl, rfl, rfl, rfl, rfl⟩ rfl rfl rfl rfl rfl (by kernel_rfl) Tryd.func3 (by kernel_rfl)
    (of_decide_eq_true (by kernel_rfl)) (by unfold Func.isWrapper; rw [if_neg (of_decide_eq_false (by kernel_rfl))]; exact ⟨rfl, rfl⟩)
    (fun os started H enc _ => manifestForms_lifted os started H enc)

theorem manifestForms_card : Rows.ManifestFormsCardSaid :=
  Claim7.holds_tied_plain_at .later [] [.data, .data] true _ false
    manifestForms_holds (fun _ h => by cases h) (by kernel_rfl) (fun _ h => by cases h) manifestForms_row_tie rfl ⟨rfl, rfl⟩ (by kernel_rfl) rfl
    (fun f fn hf hfn => by
      obtain rfl : f = 3 := Option.some.inj ((show Tryd.prog.funcNamed "downpour/downpourlaw14.ManifestForms" = some 3 by kernel_rfl).symm.trans hf) |>.symm
      obtain rfl : fn = Tryd.f3 := (Option.some.inj (Tryd.func3.symm.trans hfn)).symm
      exact ⟨by kernel_rfl, fun j t ht => by
        rw [Tryd.params3] at ht
        have hm : t ∈ [25, 25, 23, 23, 3, 5] := by simpa using Array.mem_of_getElem? ht
        have hall : ([25, 25, 23, 23, 3, 5].all fun u => !Tryd.prog.wantsStandIn u) = true := by kernel_rfl
        exact (show Tryd.prog.wantsStandIn t = false by simpa using List.all_eq_true.1 hall t hm)⟩)
    (by kernel_rfl)
end Go.Proofs.YtcgcmfhidolohaaDoor
