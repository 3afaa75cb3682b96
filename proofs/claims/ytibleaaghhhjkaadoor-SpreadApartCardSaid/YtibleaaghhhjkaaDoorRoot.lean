/- soliton.Root: by contract. -/
import Derived.Test.YtibleaaghhhjkaaDoorRows
import Derived.Test.YtibleaaghhhjkaaDoorOwn
import Derived.BigQuiet
namespace Go.Proofs.YtibleaaghhhjkaaDoor
open Go.RowKit
theorem div_le_iff (c N : Nat) (h : 1 ≤ c) : (c : Int) ≤ (N : Int) / (c : Int) ↔ c * c ≤ N := by
  rw [← Int.natCast_ediv, Int.ofNat_le]
  exact Nat.le_div_iff_mul_le (by omega)
theorem tdiv_neg (n b : Int) (hn : n < 1) (hb : 1 ≤ b) : ¬ b ≤ n.tdiv b := by
  have h : n.tdiv b ≤ 0 := by
    obtain ⟨m, rfl⟩ : ∃ m : Nat, n = -(m : Int) := ⟨(-n).toNat, by omega⟩
    obtain ⟨k, rfl⟩ : ∃ k : Nat, b = (k : Int) := ⟨b.toNat, by omega⟩
    have h0 : 0 ≤ (m : Int) / (k : Int) := Int.ediv_nonneg (by omega) (by omega)
    rw [Int.neg_tdiv, ← Int.ofNat_tdiv]
    omega
  omega
theorem sq_step (r b N : Nat) (h : (r + b) * (r + b) ≤ N) (h2 : N < (r + 2 * b) * (r + 2 * b)) : N < (r + b + b) * (r + b + b) := by
  rwa [show r + b + b = r + 2 * b by omega]
set_option maxHeartbeats 1600000 in
theorem root_neg (n : Int) (hn : n < 1) (h0 : -9223372036854775808 ≤ n) (w : World) : Calls Tryd.prog 91 #[.int .i64 n] w fun e w' => e = .returned (.int .i64 0) ∧ w = w' := by
  go_enter Tryd.func91, Tryd.ntmps91
  go_wp2_with fail
  go_loop [3, 4] (fun r t => ∃ b : Nat, b ≤ 2147483648 ∧ r = .int .i64 0 ∧ t = .int .i64 b) (fun _ t => (intOf t).toNat)
  case atStart => exact ⟨2147483648, by omega, rfl, rfl⟩
  case round =>
    obtain ⟨b, hb, rfl, rfl⟩ := hrel
    by_cases hb0 : b = 0
    · subst hb0
      go_wp2_with fail
      go_ret
      exact ⟨rfl, rfl⟩
    · have hb1 : (1 : Int) ≤ (b : Int) := by omega
      have hbl : (b : Int) ≤ 2147483648 := by omega
      have ht := tdiv_neg n b hn hb1
      have hb2 : ¬ (b : Int) = 0 := by omega
      go_wp2_with fail
      go_round
      case rel => exact ⟨b / 2, by omega, rfl, by go_num⟩
      case measure => simp [intOf]; omega
set_option maxHeartbeats 1600000 in
theorem root_pos (N : Nat) (h1 : 1 ≤ N) (h2 : N ≤ 9223372036854775807) (w : World) : Calls Tryd.prog 91 #[.int .i64 (N : Int)] w fun e w' => (∃ r : Nat, e = .returned (.int .i64 (r : Int)) ∧ Hid (1 ≤ r ∧ r ≤ 4294967295 ∧ r * r ≤ N ∧ N < (r + 1) * (r + 1))) ∧ w = w' := by
  have H2 := Lib.hid h2
  have hNi : (N : Int) ≤ 9223372036854775807 := by omega
  have HNI := Lib.hid hNi
  clear h2 hNi
  go_enter Tryd.func91, Tryd.ntmps91
  go_wp2_with fail
  go_loop [3, 4] (fun r t => ∃ (j rr : Nat), j ≤ 32 ∧ r = .int .i64 rr ∧ t = .int .i64 (2 ^ j / 2 : Nat) ∧ Hid (rr + 2 ^ j ≤ 4294967296 ∧ rr * rr ≤ N ∧ N < (rr + 2 ^ j) * (rr + 2 ^ j))) (fun _ t => (intOf t).toNat)
  case atStart => exact ⟨32, 0, by omega, rfl, rfl, by omega, by omega, by have := H2.out; omega⟩
  case round =>
    obtain ⟨j, r, hj, rfl, rfl, hI⟩ := hrel
    cases j with
    | zero =>
      have hI2 : Hid (1 ≤ r ∧ r ≤ 4294967295 ∧ r * r ≤ N ∧ N < (r + 1) * (r + 1)) := by
        obtain ⟨a, b, c⟩ := hI.out
        simp at a c
        refine ⟨?_, by omega, b, c⟩
        rcases Nat.eq_zero_or_pos r with h | h
        · subst h; simp at c; omega
        · exact h
      have e0 : (2 ^ 0 / 2 : Nat) = 0 := rfl
      rw [e0]
      clear e0
      go_wp2_with fail
      go_ret
      exact ⟨⟨r, rfl, hI2⟩, rfl⟩
    | succ j =>
      obtain ⟨b, hb⟩ : ∃ b : Nat, b = 2 ^ j := ⟨_, rfl⟩
      have e1 : (2 ^ (j + 1) / 2 : Nat) = b := by rw [hb, Nat.pow_succ]; omega
      have e2 : (2 ^ (j + 1) : Nat) = 2 * b := by rw [hb, Nat.pow_succ]; omega
      have hb1 : 1 ≤ b := by rw [hb]; exact Nat.one_le_two_pow
      rw [e2] at hI
      rw [e1]
      have HB := Lib.hid hb
      have hI' := hI.out
      have hrb : r + b ≤ 4294967296 := by have := hI'.1; omega
      have hbl : b ≤ 4294967296 := by omega
      clear hb e1 e2
      have hbi : (1 : Int) ≤ (b : Int) := by omega
      have hci : (1 : Int) ≤ (r : Int) + (b : Int) := by omega
      have hcl : (r : Int) + (b : Int) ≤ 4294967296 := by omega
      have hc0 : ¬ (r : Int) + (b : Int) = 0 := by omega
      have hdv := div_le_iff (r + b) N (by omega)
      rw [Int.natCast_add] at hdv
      have HDV := Lib.hid hdv
      have HRB := Lib.hid hrb
      clear hI' hdv hrb
      have hNI := HNI.out
      have hq0 : (0 : Int) ≤ (N : Int) / ((r : Int) + (b : Int)) := Int.ediv_nonneg (by omega) (by omega)
      have hq1 : (N : Int) / ((r : Int) + (b : Int)) ≤ 9223372036854775807 := Int.le_trans (Int.ediv_le_self _ (by omega)) hNI
      go_wp2_with fail
      · have hle := HDV.out.1 (by assumption)
        have HLE := Lib.hid hle
        clear hle
        go_round
        case rel => exact ⟨j, r + b, by omega, by go_num, by rw [← HB.out]; go_num, by
          show _ ∧ _ ∧ _
          rw [← HB.out]
          have := hI.out
          exact ⟨by omega, HLE.out, sq_step r b N HLE.out this.2.2⟩⟩
        case measure => simp [intOf]; omega
      · have hlq : (N : Int) / ((r : Int) + (b : Int)) < (r : Int) + (b : Int) := by assumption
        have hle : ¬ (r + b) * (r + b) ≤ N := fun h => absurd (HDV.out.2 h) (Int.not_le.2 hlq)
        have HLE := Lib.hid hle
        clear hle
        go_round
        case rel => exact ⟨j, r, by omega, rfl, by rw [← HB.out]; go_num, by
          show _ ∧ _ ∧ _
          rw [← HB.out]
          have := hI.out
          have h3 := HLE.out
          exact ⟨by omega, this.2.1, by omega⟩⟩
        case measure => simp [intOf]; omega
end Go.Proofs.YtibleaaghhhjkaaDoor
