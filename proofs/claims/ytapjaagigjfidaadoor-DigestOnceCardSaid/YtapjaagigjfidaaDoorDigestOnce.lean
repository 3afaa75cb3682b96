/- The tied card of downpourlaw2.DigestOnce. -/
import Derived.Test.YtapjaagigjfidaaDoorDgOnce
import Derived.Test.YtapjaagigjfidaaDoorDgLaid
namespace Go.Proofs.YtapjaagigjfidaaDoor
open Go.RowKit Go.ChangeShapes Go.WideShapes Go.ChangeAt Sh
set_option maxRecDepth 100000 in
theorem digestOnce_lifted (os : Os) (started : os.Started) (H : Type) (enc : TypeId × Value → H) :
    ReturnsInHanded {} Tryd.checked os 6 .any (fun w args => (Rows.digestOnceSpec.pre enc Tryd.prog Tryd.f6 [] false w args ∧ laidMetH Tryd.prog L0 w) ∧ sizedMet enc Tryd.prog Tryd.f6 (OpenSpec.ofChange Rows.digestOnceSpec) false w args) (Rows.digestOnceSpec.post enc Tryd.prog Tryd.f6 false true false false) := by
  refine law_lift_laid (C := Tryd.checked) (tb := 4) (X := fun w _ => laidMetH Tryd.prog L0 w) (fun _ _ _ hh h => h.of_heap hh) Tryd.own started (by kernel_rfl) Tryd.func6
    (ChangeSpec.witness_shaped (enc := enc) (C := Tryd.checked) (os := os) (X := fun w _ => laidMetH Tryd.prog L0 w) false (World.doorLaid Tryd.prog 400 os) #[.slice none 0 0, .slice none 0 0] 8 rfl (World.shaped_of_RefB (by kernel_rfl) (by kernel_rfl)) (by kernel_rfl) (by kernel_rfl) (by kernel_rfl) (door_met os _)) Tryd.laidOut (by kernel_rfl) rfl rfl Tryd.underlying4 ?_ ?_
  · intro ds hds
    match ds, hds with
    | [_, _], _ => rfl
  intro W base args ds p hval0 hA0 _ _ hsz0 hX0
  have hval : ∀ (j : Nat) t v, Tryd.f6.params[j]? = some t → args[j]? = some v → Value.okWide Tryd.prog W .any base t v := hval0
  have hA : DataW.TrodAll enc Tryd.prog W 0 (fun _ => true) true Tryd.f6.params.toList args.toList ds p := hA0
  rw [Tryd.params6] at hA hval
  obtain ⟨v0, v1, d0, d1, p0, p1, rfl, rfl, rfl, h0, h1⟩ := trodAll_two hA
  have hsz : (DataW.weightsEach Tryd.prog Tryd.f6.params.toList _).all (· ≤ reachBytes) = true := hsz0
  rw [Tryd.params6] at hsz
  obtain ⟨hz0, hy0⟩ := weights_cons hsz
  obtain ⟨hz1, hy1⟩ := weights_cons hy0
  -- rw
  obtain ⟨A0, n0, cap0, l0, rfl, hrow0, hnc0, hcm0, hrb0⟩ := open_rbytes Tryd.underlying23 Tryd.underlying5 Tryd.cells5 (hval 0 23 v0 rfl rfl) h0
  have hrr0 := hrb0 (by kernel_rfl) hz0
  obtain ⟨A1, n1, cap1, l1, rfl, hrow1, hnc1, hcm1, hrb1⟩ := open_rbytes Tryd.underlying23 Tryd.underlying5 Tryd.cells5 (hval 1 23 v1 rfl rfl) h1
  have hrr1 := hrb1 (by kernel_rfl) hz1
  exact once_walk A0 n0 cap0 l0 A1 n1 cap1 l1 W (tab_of_laid hX0) hrow0 hnc0 hcm0 hrr0 hrow1 hnc1 hcm1 hrr1

theorem digestOnce_holds : Rows.DigestOnceSaid :=
  OpenClaim.holds_of_wide 6 Tryd.f6 rfl rfl rfl rfl rfl rfl rfl ⟨rfl, rfl, rfl, rfl, rfl⟩ rfl rfl rfl rfl rfl (by kernel_rfl) Tryd.func6 (by kernel_rfl)
    (of_decide_eq_true (by kernel_rfl)) (by unfold Func.isWrapper; rw [if_neg (of_decide_eq_false (by kernel_rfl))]; exact ⟨rfl, rfl⟩)
    (fun os started H enc _ => digestOnce_lifted os started H enc)

theorem digestOnce_card : Rows.DigestOnceCardSaid :=
  Claim7.holds_tied_plain_at .later [] [.data, .data] true _ false
    digestOnce_holds (fun _ h => by cases h) (by kernel_rfl) (fun _ h => by cases h) digestOnce_row_tie rfl ⟨rfl, rfl⟩ (by kernel_rfl) rfl
    (fun f fn hf hfn => by
      obtain rfl : f = 6 := Option.some.inj ((show Tryd.prog.funcNamed "downpour/downpourlaw2.DigestOnce" = some 6 by kernel_rfl).symm.trans hf) |>.symm
      obtain rfl : fn = Tryd.f6 := (Option.some.inj (Tryd.func6.symm.trans hfn)).symm
      exact ⟨by kernel_rfl, fun j t ht => by
        rw [Tryd.params6] at ht
        have hm : t ∈ [23] := by simpa using Array.mem_of_getElem? ht
        have hall : ([23].all fun u => !Tryd.prog.wantsStandIn u) = true := by kernel_rfl
        exact (show Tryd.prog.wantsStandIn t = false by simpa using List.all_eq_true.1 hall t hm)⟩)
    (by kernel_rfl)
end Go.Proofs.YtapjaagigjfidaaDoor
