/- block.Count: by contract. -/
import Derived.Test.YtoblapnnpjgpnaaGreatDoorR1JoinQ
import Derived.Test.YtoblapnnpjgpnaaGreatDoorBlkMathQ
import Derived.Test.YtoblapnnpjgpnaaGreatDoorZAQ
namespace Go.Proofs.YtoblapnnpjgpnaaGreatDoor
open Go.RowKit
theorem Tryz.info23 : (Tryz.prog.info? 23).map (fun i => (i.zero, i.size, i.bytes)) = some (some (.slice none 0 0), 1, 24) := by kernel_rfl
theorem count_no (a b : Int) (h : a < 1 ∨ 512 < a ∨ b < 1 ∨ 16 < b) (w : World) : Calls Tryz.prog 36 #[.int .i64 a, .int .i64 b] w fun e w' => e = .returned (.int .i64 0) ∧ w = w' := by
  by_cases h1 : a < 1
  · go_enter Tryz.func36, Tryz.ntmps36
    go_wp2
    go_ret
    exact ⟨rfl, rfl⟩
  by_cases h2 : 512 < a
  · go_enter Tryz.func36, Tryz.ntmps36
    go_wp2
    go_ret
    exact ⟨rfl, rfl⟩
  by_cases h3 : b < 1
  · go_enter Tryz.func36, Tryz.ntmps36
    go_wp2
    go_ret
    exact ⟨rfl, rfl⟩
  have h4 : 16 < b := by omega
  go_enter Tryz.func36, Tryz.ntmps36
  go_wp2
  go_ret
  exact ⟨rfl, rfl⟩
theorem quo_bounds (a b : Int) (ha : 1 ≤ a) (ha2 : a ≤ 512) (hb : 1 ≤ b) (hb2 : b ≤ 16) : 1 ≤ (a + b - 1) / b ∧ (a + b - 1) / b ≤ 527 ∧ a ≤ (a + b - 1) / b * b ∧ ((a + b - 1) / b - 1) * b < a := by
  obtain ⟨n, rfl⟩ : ∃ n : Nat, b = n := ⟨b.toNat, by omega⟩
  have : n = 1 ∨ n = 2 ∨ n = 3 ∨ n = 4 ∨ n = 5 ∨ n = 6 ∨ n = 7 ∨ n = 8 ∨ n = 9 ∨ n = 10 ∨ n = 11 ∨ n = 12 ∨ n = 13 ∨ n = 14 ∨ n = 15 ∨ n = 16 := by omega
  rcases this with rfl | rfl | rfl | rfl | rfl | rfl | rfl | rfl | rfl | rfl | rfl | rfl | rfl | rfl | rfl | rfl <;> omega
theorem count_in (a b : Int) (h1 : 1 ≤ a) (h2 : a ≤ 512) (h3 : 1 ≤ b) (h4 : b ≤ 16) (w : World) : Calls Tryz.prog 36 #[.int .i64 a, .int .i64 b] w fun e w' => e = .returned (.int .i64 (if 64 < (a + b - 1) / b then 0 else (a + b - 1) / b)) ∧ w = w' := by
  obtain ⟨q1, q2, _, _⟩ := quo_bounds a b h1 h2 h3 h4
  by_cases hq : 64 < (a + b - 1) / b
  · go_enter Tryz.func36, Tryz.ntmps36
    go_wp2
    go_ret
    exact ⟨by simp , rfl⟩
  · go_enter Tryz.func36, Tryz.ntmps36
    go_wp2
    go_ret
    exact ⟨by simp , rfl⟩
theorem count_any (a b : Int) (w : World) : Calls Tryz.prog 36 #[.int .i64 a, .int .i64 b] w fun e w' => e = .returned (.int .i64 (BlkM.count a b : Nat)) ∧ w = w' := by
  by_cases h : a < 1 ∨ 512 < a ∨ b < 1 ∨ 16 < b
  · refine (count_no a b h w).mono ?_
    rintro e w' ⟨rfl, rfl⟩
    exact ⟨by simp [BlkM.count, h], rfl⟩
  · obtain ⟨q1, q2, _, _⟩ := quo_bounds a b (by omega) (by omega) (by omega) (by omega)
    refine (count_in a b (by omega) (by omega) (by omega) (by omega) w).mono ?_
    rintro e w' ⟨rfl, rfl⟩
    refine ⟨?_, rfl⟩
    unfold BlkM.count
    rw [if_neg h]
    split
    · rfl
    · congr 2; omega
theorem count_facts (a b : Int) (c : Nat) (h : BlkM.count a b = c) (hc : 0 < c) : 1 ≤ a ∧ a ≤ 512 ∧ 1 ≤ b ∧ b ≤ 16 ∧ c ≤ 64 ∧ a ≤ (c : Int) * b ∧ ((c : Int) - 1) * b < a := by
  unfold BlkM.count at h
  split at h
  · omega
  · rename_i h0
    split at h
    · omega
    · obtain ⟨q1, q2, q3, q4⟩ := quo_bounds a b (by omega) (by omega) (by omega) (by omega)
      have e : (c : Int) = (a + b - 1) / b := by omega
      rw [e]
      exact ⟨by omega, by omega, by omega, by omega, by omega, q3, q4⟩
end Go.Proofs.YtoblapnnpjgpnaaGreatDoor
