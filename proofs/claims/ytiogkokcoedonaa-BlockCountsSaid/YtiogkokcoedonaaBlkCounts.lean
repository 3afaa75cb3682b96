/- BlockCounts: an image of that length takes as many pieces as hold it, and not one more; none where it may not be. For every input, no condition. -/
import Derived.Test.YtiogkokcoedonaaRows
import Derived.Test.YtiogkokcoedonaaBlkAwake
import Derived.Test.YtiogkokcoedonaaLaw
namespace Go.Proofs.Ytiogkokcoedonaa
open Go.ChangeShapes Go.WideShapes Go.ChangeAt Go.RowKit
theorem count_zero (a b : Int) (h : BlkM.count a b = 0) (h1 : ¬ a < 1) (h2 : ¬ 512 < a) (h3 : ¬ b < 1) (h4 : ¬ 16 < b) : 64 * b < a := by
  unfold BlkM.count at h
  rw [if_neg (by omega)] at h
  obtain ⟨q1, q2, q3, q4⟩ := quo_bounds a b (by omega) (by omega) (by omega) (by omega)
  split at h
  · rename_i h0
    have : (64 : Int) * b ≤ ((a + b - 1) / b - 1) * b := Int.mul_le_mul_of_nonneg_right (by omega) (by omega)
    omega
  · omega
set_option maxHeartbeats 800000 in
theorem counts_walk (a : Int) (_ : -9223372036854775808 ≤ a) (_ : a ≤ 9223372036854775807) (b : Int) (_ : -9223372036854775808 ≤ b) (_ : b ≤ 9223372036854775807) (w : World) :
    Calls Try.prog 7 #[.int .i64 a, .int .i64 b] w fun e w' => e = .returned (.bool true) ∧ Below w.heap.size w w' := by
  by_cases hc : BlkM.count a b = 0
  · have HC := Lib.hid hc
    clear hc
    by_cases h1 : a < 1
    · go_enter Try.func7, Try.ntmps7
      go_wp2_with (first | (go_at_call 11; refine (count_any _ _ _).mono ?_; rintro e w' ⟨rfl, rfl⟩; rw [HC.out]) | (go_at_call 10; refine (awake10_any _).mono ?_; rintro e w' ⟨rfl, hb⟩))
      go_ret
      exact ⟨rfl, hb⟩
    by_cases h2 : 512 < a
    · go_enter Try.func7, Try.ntmps7
      go_wp2_with (first | (go_at_call 11; refine (count_any _ _ _).mono ?_; rintro e w' ⟨rfl, rfl⟩; rw [HC.out]) | (go_at_call 10; refine (awake10_any _).mono ?_; rintro e w' ⟨rfl, hb⟩))
      go_ret
      exact ⟨rfl, hb⟩
    by_cases h3 : b < 1
    · go_enter Try.func7, Try.ntmps7
      go_wp2_with (first | (go_at_call 11; refine (count_any _ _ _).mono ?_; rintro e w' ⟨rfl, rfl⟩; rw [HC.out]) | (go_at_call 10; refine (awake10_any _).mono ?_; rintro e w' ⟨rfl, hb⟩))
      go_ret
      exact ⟨rfl, hb⟩
    by_cases h4 : 16 < b
    · go_enter Try.func7, Try.ntmps7
      go_wp2_with (first | (go_at_call 11; refine (count_any _ _ _).mono ?_; rintro e w' ⟨rfl, rfl⟩; rw [HC.out]) | (go_at_call 10; refine (awake10_any _).mono ?_; rintro e w' ⟨rfl, hb⟩))
      go_ret
      exact ⟨rfl, hb⟩
    have h5 := count_zero a b HC.out h1 h2 h3 h4
    go_enter Try.func7, Try.ntmps7
    go_wp2_with (first | (go_at_call 11; refine (count_any _ _ _).mono ?_; rintro e w' ⟨rfl, rfl⟩; rw [HC.out]) | (go_at_call 10; refine (awake10_any _).mono ?_; rintro e w' ⟨rfl, hb⟩))
    go_ret
    exact ⟨rfl, hb⟩
  · obtain ⟨c, hcN⟩ : ∃ c, BlkM.count a b = c := ⟨_, rfl⟩
    have hc0 : 0 < c := by omega
    obtain ⟨q1, q2, q3, q4, q5, q6, q7⟩ := count_facts a b c hcN hc0
    have HC := Lib.hid hcN
    clear hc hcN
    have p1 : 0 ≤ (c : Int) * b := by omega
    have p2 : (c : Int) * b ≤ 64 * b := Int.mul_le_mul_of_nonneg_right (by omega) (by omega)
    have p3 : (0 : Int) ≤ ((c : Int) - 1) * b := Int.mul_nonneg (by omega) (by omega)
    have p4 : (c : Int) * b ≤ 1024 := by omega
    have c0 : ¬ (c : Int) = 0 := by omega
    have c1 : (1 : Int) ≤ (c : Int) := by omega
    have c2 : (c : Int) ≤ 64 := by omega
    go_enter Try.func7, Try.ntmps7
    go_wp2_with (first | (go_at_call 11; refine (count_any _ _ _).mono ?_; rintro e w' ⟨rfl, rfl⟩; rw [HC.out]) | (go_at_call 10; refine (awake10_any _).mono ?_; rintro e w' ⟨rfl, hb⟩))
    go_ret
    exact ⟨rfl, hb⟩
set_option maxRecDepth 100000 in
theorem blockCounts_lifted (os : Os) (started : os.Started) (H : Type) (enc : TypeId × Value → H) :
    ReturnsInHanded {} Try.checked os 7 .any (Rows.blockCountsSpec.pre6 enc Try.prog Try.f7 Rows.blockCountsRow.domain false) (Rows.blockCountsSpec.post enc Try.prog Try.f7 false true false false) := by
  refine law_lift (C := Try.checked) (tb := 4) Try.own started (by kernel_rfl) Try.func7
    (ChangeSpec.witness6 (enc := enc) (C := Try.checked) false ⟨#[], #[.int .i64 0, .int .i64 0], []⟩ 8 (by kernel_rfl) (by kernel_rfl) (by kernel_rfl) (by kernel_rfl)) Try.laidOut (by kernel_rfl) rfl rfl Try.underlying4 ?_ ?_
  · intro ds hds
    match ds, hds with
    | [_, _], _ => rfl
  intro W base args ds p hval0 hA0 _ _ hsz0
  have hval : ∀ (j : Nat) t v, Try.f7.params[j]? = some t → args[j]? = some v → Value.okWide Try.prog W .any base t v := hval0
  have hA : DataW.TrodAll enc Try.prog W 0 (fun _ => true) true Try.f7.params.toList args.toList ds p := hA0
  rw [Try.params7] at hA hval
  obtain ⟨v0, v1, d0, d1, p0, p1, rfl, rfl, rfl, h0, h1⟩ := trodAll_two hA
  obtain ⟨x0, rfl, hx0, hy0⟩ := open_i64 Try.underlying3 (hval 0 3 v0 rfl rfl) h0
  obtain ⟨x1, rfl, hx1, hy1⟩ := open_i64 Try.underlying3 (hval 1 3 v1 rfl rfl) h1
  exact counts_walk x0 hx0 hy0 x1 hx1 hy1 W 

theorem blockCounts_holds : Rows.BlockCountsSaid :=
  OpenClaim.holds_of_wide 7 Try.f7 rfl rfl rfl rfl rfl rfl rfl ⟨rfl, rfl, rfl, rfl, rfl⟩ rfl rfl rfl rfl rfl (by kernel_rfl) Try.func7 (by kernel_rfl)
    (of_decide_eq_true (by kernel_rfl)) (by unfold Func.isWrapper; rw [if_neg (of_decide_eq_false (by kernel_rfl))]; exact ⟨rfl, rfl⟩)
    (fun os started H enc _ => blockCounts_lifted os started H enc)
end Go.Proofs.Ytiogkokcoedonaa
