/- block.Count: by contract. -/
import Derived.Test.YtibleaaghhhjkaaDoorR1Join
import Derived.Test.YtibleaaghhhjkaaDoorBlkMath
import Derived.Test.YtibleaaghhhjkaaDoorClone
namespace Go.Proofs.YtibleaaghhhjkaaDoor
open Go.RowKit
theorem Tryd.info65 : (Tryd.prog.info? 65).map (fun i => (i.zero, i.size, i.bytes)) = some (some (.slice none 0 0), 1, 24) := by kernel_rfl
theorem quo_bounds (a b : Int) (ha : 1 ≤ a) (ha2 : a ≤ 512) (hb : 1 ≤ b) (hb2 : b ≤ 16) : 1 ≤ (a + b - 1) / b ∧ (a + b - 1) / b ≤ 527 ∧ a ≤ (a + b - 1) / b * b ∧ ((a + b - 1) / b - 1) * b < a := by
  obtain ⟨n, rfl⟩ : ∃ n : Nat, b = n := ⟨b.toNat, by omega⟩
  have : n = 1 ∨ n = 2 ∨ n = 3 ∨ n = 4 ∨ n = 5 ∨ n = 6 ∨ n = 7 ∨ n = 8 ∨ n = 9 ∨ n = 10 ∨ n = 11 ∨ n = 12 ∨ n = 13 ∨ n = 14 ∨ n = 15 ∨ n = 16 := by omega
  rcases this with rfl | rfl | rfl | rfl | rfl | rfl | rfl | rfl | rfl | rfl | rfl | rfl | rfl | rfl | rfl | rfl <;> omega
theorem count_facts (a b : Int) (c : Nat) (h : BlkM.count a b = c) (hc : 0 < c) : 1 ≤ a ∧ a ≤ 512 ∧ 1 ≤ b ∧ b ≤ 16 ∧ c ≤ 64 ∧ a ≤ (c : Int) * b ∧ ((c : Int) - 1) * b < a := by
  unfold BlkM.count at h
  split at h
  · omega
  · rename_i h0
    split at h
    · omega
    · obtain ⟨q1, q2, q3, q4⟩ := quo_bounds a b (by omega) (by omega) (by omega) (by omega)
      have e : (c : Int) = (a + b - 1) / b := by omega
      rw [e]
      exact ⟨by omega, by omega, by omega, by omega, by omega, q3, q4⟩
end Go.Proofs.YtibleaaghhhjkaaDoor
