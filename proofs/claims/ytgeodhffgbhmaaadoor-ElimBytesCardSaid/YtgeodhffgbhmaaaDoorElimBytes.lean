/- The tied card of downpourlaw6.ElimBytes. -/
import Derived.Test.YtgeodhffgbhmaaaDoorRows
import Derived.Test.YtgeodhffgbhmaaaDoorElBytW
import Derived.Test.YtgeodhffgbhmaaaDoorLaw
import Derived.Test.YtgeodhffgbhmaaaDoorVecLaid
import Derived.Test.YtgeodhffgbhmaaaDoorLawNumss
import Derived.Test.YtgeodhffgbhmaaaDoorLawNums
import Derived.Test.YtgeodhffgbhmaaaDoorVecMore
namespace Go.Proofs.YtgeodhffgbhmaaaDoor
open Go.RowKit Go.ChangeShapes Go.WideShapes Go.ChangeAt Vc
set_option maxRecDepth 100000 in
theorem elimBytes_lifted (os : Os) (started : os.Started) (H : Type) (enc : TypeId × Value → H) :
    ReturnsInHanded {} Tryd.checked os 5 .any (fun w args => (Rows.elimBytesSpec.pre enc Tryd.prog Tryd.f5 [] false w args ∧ laidMetH Tryd.prog LB w) ∧ sizedMet enc Tryd.prog Tryd.f5 (OpenSpec.ofChange Rows.elimBytesSpec) false w args) (Rows.elimBytesSpec.post enc Tryd.prog Tryd.f5 false true false false) := by
  refine law_lift_laid (C := Tryd.checked) (tb := 4) (X := fun w _ => laidMetH Tryd.prog LB w) (fun _ _ _ hh h => h.of_heap hh) Tryd.own started (by kernel_rfl) Tryd.func5
    (ChangeSpec.witness_shaped (enc := enc) (C := Tryd.checked) (os := os) (X := fun w _ => laidMetH Tryd.prog LB w) false (World.doorLaid Tryd.prog 400 os) #[.int .i64 0, .slice none 0 0, .slice none 0 0] 8 rfl (World.shaped_of_RefB (by kernel_rfl) (by kernel_rfl)) (by kernel_rfl) (by kernel_rfl) (by kernel_rfl) (door_metB os _)) Tryd.laidOut (by kernel_rfl) rfl rfl Tryd.underlying4 ?_ ?_
  · intro ds hds
    match ds, hds with
    | [_, _, _], _ => rfl
  intro W base args ds p hval0 hA0 _ _ hsz0 hX0
  have hval : ∀ (j : Nat) t v, Tryd.f5.params[j]? = some t → args[j]? = some v → Value.okWide Tryd.prog W .any base t v := hval0
  have hA : DataW.TrodAll enc Tryd.prog W 0 (fun _ => true) true Tryd.f5.params.toList args.toList ds p := hA0
  rw [Tryd.params5] at hA hval
  obtain ⟨v0, v1, v2, d0, d1, d2, p0, p1, p2, rfl, rfl, rfl, h0, h1, h2⟩ := trodAll_three hA
  obtain ⟨x0, rfl, hx0, hy0⟩ := open_i64 Tryd.underlying3 (hval 0 3 v0 rfl rfl) h0
  obtain ⟨A1, n1, cap1, R1, rfl, hnc1, hcm1, hns1⟩ := open_numss Tryd.underlying59 Tryd.underlying29 Tryd.underlying3 (by kernel_rfl) (by kernel_rfl) (hval 1 59 v1 rfl rfl) h1
  obtain ⟨A2, n2, cap2, zs2, rfl, hnc2, hcm2, hzs2⟩ := open_nums Tryd.underlying29 Tryd.underlying3 (by kernel_rfl) (hval 2 29 v2 rfl rfl) h2
  exact El.elbytes_walk x0 A1 A2 n1 cap1 n2 cap2 R1 _ W (dtab_of_laid hX0) hns1 ⟨hnc1, hcm1⟩ (row_of_nums hzs2) ⟨hnc2, hcm2⟩

theorem elimBytes_holds : Rows.ElimBytesSaid :=
  OpenClaim.holds_of_wide 5 Tryd.f5 rfl rfl rfl rfl rfl rfl rfl ⟨rfl, rfl, rfl, rfl, rfl⟩ rfl rfl rfl rfl rfl (by kernel_rfl) Tryd.func5 (by kernel_rfl)
    (of_decide_eq_true (by kernel_rfl)) (by unfold Func.isWrapper; rw [if_neg (of_decide_eq_false (by kernel_rfl))]; exact ⟨rfl, rfl⟩)
    (fun os started H enc _ => elimBytes_lifted os started H enc)

theorem elimBytes_card : Rows.ElimBytesCardSaid :=
  Claim7.holds_tied_plain_at .later [] [.data] true _ false
    elimBytes_holds (fun _ h => by cases h) (by kernel_rfl) (fun _ h => by cases h) elimBytes_row_tie rfl ⟨rfl, rfl⟩ (by kernel_rfl) rfl
    (fun f fn hf hfn => by
      obtain rfl : f = 5 := Option.some.inj ((show Tryd.prog.funcNamed "downpour/downpourlaw6.ElimBytes" = some 5 by kernel_rfl).symm.trans hf) |>.symm
      obtain rfl : fn = Tryd.f5 := (Option.some.inj (Tryd.func5.symm.trans hfn)).symm
      exact ⟨by kernel_rfl, fun j t ht => by
        rw [Tryd.params5] at ht
        have hm : t ∈ [3, 59, 29] := by simpa using Array.mem_of_getElem? ht
        have hall : ([3, 59, 29].all fun u => !Tryd.prog.wantsStandIn u) = true := by kernel_rfl
        exact (show Tryd.prog.wantsStandIn t = false by simpa using List.all_eq_true.1 hall t hm)⟩)
    (by kernel_rfl)
end Go.Proofs.YtgeodhffgbhmaaaDoor
