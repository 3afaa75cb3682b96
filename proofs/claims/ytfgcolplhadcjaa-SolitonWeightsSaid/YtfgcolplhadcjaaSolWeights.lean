/- SolitonWeights: each weight is there, and as great as the plain soliton's share at least; those beyond the spike are just that. For every input, no condition. -/
import Derived.Test.YtfgcolplhadcjaaRows
import Derived.Test.YtfgcolplhadcjaaSolAwake
import Derived.Test.YtfgcolplhadcjaaLaw
import Derived.Deep.DeepCutAuto
namespace Go.Proofs.Ytfgcolplhadcjaa
open Go.ChangeShapes Go.WideShapes Go.ChangeAt Go.RowKit
open SoM
/-- what is asked of weight d of n -/
def okP (n d : Nat) : Bool := n == 0 || d == 0 || decide (n < d) || (decide (ideal n d ≤ wt n d) && (decide (d ≤ n / rt n) || wt n d == ideal n d) && (d != n / rt n || decide (ideal n d < wt n d)))
theorem okP_all : ((List.range 81).all fun n => (List.range 81).all fun d => okP n d) = true := by decide +kernel
theorem plain_bound (n d : Nat) (hn : 1 ≤ n) (hn2 : n ≤ 80) (hd : 1 ≤ d) (hd2 : d ≤ n) : ideal n d ≤ wt n d ∧ (d ≤ n / rt n ∨ wt n d = ideal n d) ∧ (d ≠ n / rt n ∨ ideal n d < wt n d) := by
  have h := all2 okP okP_all n d (by omega) (by omega)
  simp only [okP, Bool.or_eq_true, Bool.and_eq_true, beq_iff_eq, decide_eq_true_eq, bne_iff_ne] at h
  omega
set_option maxRecDepth 100000 in
set_option maxHeartbeats 3200000 in
theorem sweights_walk (n0 : Int) (_ : -9223372036854775808 ≤ n0) (_ : n0 ≤ 9223372036854775807) (d0 : Int) (_ : -9223372036854775808 ≤ d0) (_ : d0 ≤ 9223372036854775807) (w : World) :
    Calls Try.prog 12 #[.int .i64 n0, .int .i64 d0] w fun e w' => e = .returned (.bool true) ∧ Below w.heap.size w w' := by
  obtain ⟨p, hp, hnp⟩ := pick_in n0 80 (by omega) (by omega)
  obtain ⟨n, hn⟩ : ∃ n : Nat, n = p + 1 := ⟨_, rfl⟩
  have h1 : 1 ≤ n := by omega
  have h2 : n ≤ 80 := by omega
  obtain ⟨q, hq, hdq⟩ := pick_in d0 (n : Int) (by omega) (by omega)
  obtain ⟨d, hd⟩ : ∃ d : Nat, d = q + 1 := ⟨_, rfl⟩
  have hw1 : wrap64 (1 + (p : Int)) = (n : Int) := by rw [IntWalk.wrap64_in _ ⟨by omega, by omega⟩]; omega
  have hw2 : wrap64 (1 + (q : Int)) = (d : Int) := by rw [IntWalk.wrap64_in _ ⟨by omega, by omega⟩]; omega
  have hwu : IntKind.u64.wrap (n : Int) = (n : Int) := by simp only [IntKind.wrap, IntKind.bits, IntKind.signed]; simp; omega
  have HNP := Lib.hid hnp
  have HDQ := Lib.hid hdq
  have HW1 := Lib.hid hw1
  have HW2 := Lib.hid hw2
  have HWU := Lib.hid hwu
  have h3 : 1 ≤ d := by omega
  have h4 : d ≤ n := by omega
  have hn0 : ¬ (n : Int) = 0 := by omega
  clear hnp hdq hw1 hw2 hp hq hn hd
  go_enter Try.func12, Try.ntmps12
  go_upto_region 2 with fail
  rw [HNP.out, HW1.out]
  clear HNP HW1
  go_upto_region 3 with fail
  rw [HDQ.out, HW2.out]
  clear HDQ HW2 hwu
  have hnew := Lib.hid (new_in n w h1 h2)
  go_wp2_with fail
  refine hnew.out.mono ?_
  rintro e w1 ⟨rfl, hT1, hb1⟩
  go_wp2_with fail
  refine (weights_any w.heap.size n 0 0 _ w1 hT1.out h1 h2).mono ?_
  rintro e w2 ⟨A, c, rfl, hown, hb2⟩
  have HB2 : Hid (Below w.heap.size w w2) := hb1.out.trans (hb2.out.mono hb1.out.size)
  obtain ⟨g, c', hv, _, _⟩ := hown.out.form (by omega)
  injection hv with e1 e2 e3
  subst e1 e3
  obtain ⟨e0, he0⟩ : ∃ e0, e0 = d - 1 := ⟨_, rfl⟩
  have hc0 := (hown.out.cellAt e0 (by omega)).trans (uv_get _ e0 (by simp [ws]; omega))
  rw [ws_getD n e0 (by omega), show e0 + 1 = d by omega, he0] at hc0
  clear he0 e0
  obtain ⟨b1, b2, b3, _, r1, r2, _⟩ := wt_bound n d h1 h2 h3 h4
  obtain ⟨p1, p2, p3⟩ := plain_bound n d h1 h2 h3 h4
  have HRT := Lib.hid (root_rt n h1 h2)
  obtain ⟨R, hR⟩ : ∃ R, rt n = R := ⟨_, rfl⟩
  obtain ⟨W, hW⟩ : ∃ W, wt n d = W := ⟨_, rfl⟩
  obtain ⟨I, hI⟩ : ∃ I, ideal n d = I := ⟨_, rfl⟩
  obtain ⟨M, hM⟩ : ∃ M, n / R = M := ⟨_, rfl⟩
  rw [hR] at HRT r1 r2 p2 p3
  rw [hW] at hc0 b1 b2 p1 p2 p3
  rw [hI] at b3 p1 p2 p3
  rw [hM] at p2 p3
  have hMi : (n : Int) / (R : Int) = (M : Int) := by rw [← Int.natCast_ediv, hM]
  have hMn : M ≤ n := by rw [← hM]; exact Nat.div_le_self _ _
  have HID := Lib.hid hI
  clear hown hT1 hb1 hb2 hR hW hI hM hnew
  have hR0 : ¬ (R : Int) = 0 := by omega
  have hR1 : (1 : Int) ≤ (R : Int) := by omega
  have hmx : max (R : Int) 1 = (R : Int) := by omega
  by_cases hd1 : d = 1
  · have hdi : ¬ (1 : Int) < (d : Int) := by omega
    have hIi : (1048576 : Int) / (n : Int) = (I : Int) := by rw [← HID.out, ideal, if_pos hd1]; rfl
    clear hd1 b1
    go_wp2_with fail
    refine (HRT.out _).mono ?_
    rintro e w' ⟨rfl, rfl⟩
    rcases Nat.lt_trichotomy d M with hc | hc | hc
    · have k1 : (d : Int) ≤ (M : Int) := by omega
      have k2 : ((d : Int) == (M : Int)) = false := by simp; omega
      have k3 : (I : Int) ≤ (W : Int) := by omega
      go_wp2_with fail
      refine (awake7_any w2).mono ?_
      rintro e w3 ⟨rfl, hb3⟩
      go_wp2_with fail
      go_ret
      exact ⟨rfl, HB2.out.trans (hb3.mono HB2.out.size)⟩
    · subst hc
      have k3 : (I : Int) ≤ (W : Int) := by omega
      have k4 : (I : Int) < (W : Int) := by omega
      go_wp2_with fail
      refine (awake7_any w2).mono ?_
      rintro e w3 ⟨rfl, hb3⟩
      go_wp2_with fail
      go_ret
      exact ⟨rfl, HB2.out.trans (hb3.mono HB2.out.size)⟩
    · have k1 : ¬ (d : Int) ≤ (M : Int) := by omega
      have k2 : ((d : Int) == (M : Int)) = false := by simp; omega
      obtain rfl : W = I := by omega
      go_wp2_with fail
      refine (awake7_any w2).mono ?_
      rintro e w3 ⟨rfl, hb3⟩
      go_wp2_with fail
      go_ret
      exact ⟨rfl, HB2.out.trans (hb3.mono HB2.out.size)⟩
  · have hdi : (1 : Int) < (d : Int) := by omega
    obtain ⟨P, hP⟩ : ∃ P, d * (d - 1) = P := ⟨_, rfl⟩
    have hP1 : 1 ≤ P := by rw [← hP]; exact Nat.mul_pos (by omega) (by omega)
    have hP2 : P ≤ 6400 := by
      have := Nat.mul_le_mul (show d ≤ 80 by omega) (show d - 1 ≤ 80 by omega)
      omega
    have hPi : (d : Int) * ((d : Int) - 1) = (P : Int) := by rw [← hP, Int.natCast_mul, Int.natCast_sub h3]; rfl
    have hIi : (1048576 : Int) / (P : Int) = (I : Int) := by rw [← HID.out, ideal, if_neg hd1, hP]; rfl
    have hP0 : ¬ (P : Int) = 0 := by omega
    obtain ⟨J, hJ⟩ : ∃ J, (1048576 : Int) / (n : Int) = J := ⟨_, rfl⟩
    have hJ0 : 0 ≤ J := by rw [← hJ]; exact Int.ediv_nonneg (by omega) (by omega)
    have hJ1 : J ≤ 1048576 := by rw [← hJ]; exact Int.ediv_le_self _ (by omega)
    clear hd1 hP b1
    go_wp2_with fail
    refine (HRT.out _).mono ?_
    rintro e w' ⟨rfl, rfl⟩
    rcases Nat.lt_trichotomy d M with hc | hc | hc
    · have k1 : (d : Int) ≤ (M : Int) := by omega
      have k2 : ((d : Int) == (M : Int)) = false := by simp; omega
      have k3 : (I : Int) ≤ (W : Int) := by omega
      go_wp2_with fail
      refine (awake7_any w2).mono ?_
      rintro e w3 ⟨rfl, hb3⟩
      go_wp2_with fail
      go_ret
      exact ⟨rfl, HB2.out.trans (hb3.mono HB2.out.size)⟩
    · subst hc
      have k3 : (I : Int) ≤ (W : Int) := by omega
      have k4 : (I : Int) < (W : Int) := by omega
      go_wp2_with fail
      refine (awake7_any w2).mono ?_
      rintro e w3 ⟨rfl, hb3⟩
      go_wp2_with fail
      go_ret
      exact ⟨rfl, HB2.out.trans (hb3.mono HB2.out.size)⟩
    · have k1 : ¬ (d : Int) ≤ (M : Int) := by omega
      have k2 : ((d : Int) == (M : Int)) = false := by simp; omega
      obtain rfl : W = I := by omega
      go_wp2_with fail
      refine (awake7_any w2).mono ?_
      rintro e w3 ⟨rfl, hb3⟩
      go_wp2_with fail
      go_ret
      exact ⟨rfl, HB2.out.trans (hb3.mono HB2.out.size)⟩
set_option maxRecDepth 100000 in
theorem solitonWeights_lifted (os : Os) (started : os.Started) (H : Type) (enc : TypeId × Value → H) :
    ReturnsInHanded {} Try.checked os 12 .any (Rows.solitonWeightsSpec.pre6 enc Try.prog Try.f12 Rows.solitonWeightsRow.domain false) (Rows.solitonWeightsSpec.post enc Try.prog Try.f12 false true false false) := by
  refine law_lift (C := Try.checked) (tb := 4) Try.own started (by kernel_rfl) Try.func12
    (ChangeSpec.witness6 (enc := enc) (C := Try.checked) false ⟨#[], #[.int .i64 0, .int .i64 0], []⟩ 8 (by kernel_rfl) (by kernel_rfl) (by kernel_rfl) (by kernel_rfl)) Try.laidOut (by kernel_rfl) rfl rfl Try.underlying4 ?_ ?_
  · intro ds hds
    match ds, hds with
    | [_, _], _ => rfl
  intro W base args ds p hval0 hA0 _ _ hsz0
  have hval : ∀ (j : Nat) t v, Try.f12.params[j]? = some t → args[j]? = some v → Value.okWide Try.prog W .any base t v := hval0
  have hA : DataW.TrodAll enc Try.prog W 0 (fun _ => true) true Try.f12.params.toList args.toList ds p := hA0
  rw [Try.params12] at hA hval
  obtain ⟨v0, v1, d0, d1, p0, p1, rfl, rfl, rfl, h0, h1⟩ := trodAll_two hA
  obtain ⟨x0, rfl, hx0, hy0⟩ := open_i64 Try.underlying3 (hval 0 3 v0 rfl rfl) h0
  obtain ⟨x1, rfl, hx1, hy1⟩ := open_i64 Try.underlying3 (hval 1 3 v1 rfl rfl) h1
  exact sweights_walk x0 hx0 hy0 x1 hx1 hy1 W 

theorem solitonWeights_holds : Rows.SolitonWeightsSaid :=
  OpenClaim.holds_of_wide 12 Try.f12 rfl rfl rfl rfl rfl rfl rfl ⟨rfl, rfl, rfl, rfl, rfl⟩ rfl rfl rfl rfl rfl (by kernel_rfl) Try.func12 (by kernel_rfl)
    (of_decide_eq_true (by kernel_rfl)) (by unfold Func.isWrapper; rw [if_neg (of_decide_eq_false (by kernel_rfl))]; exact ⟨rfl, rfl⟩)
    (fun os started H enc _ => solitonWeights_lifted os started H enc)
end Go.Proofs.Ytfgcolplhadcjaa
