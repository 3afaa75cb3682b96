/- Sums of rows: plain facts. -/
import Derived.Test.YtibleaaghhhjkaaDoorPcSum
namespace Go.Proofs.YtibleaaghhhjkaaDoor.Pc
open Go.RowKit
open VecM RdM Vc Sp
theorem xorL_at (a b : List UInt8) (j : Nat) (h : j < a.length) : (xorL a b).getD j 0 = a.getD j 0 ^^^ b.getD j 0 := by
  unfold xorL
  rw [xl_getD a b a.length j h, if_pos h]
theorem xorL_self (a : List UInt8) : xorL a a = List.replicate a.length 0 := by
  apply List.ext_getElem?
  intro j
  by_cases h : j < a.length
  · have h2 := xl_get a a a.length j h
    unfold xorL
    rw [h2, if_pos h, UInt8.xor_self]
    simp [h]
  · rw [List.getElem?_eq_none (by rw [xorL_length]; omega), List.getElem?_eq_none (by simp; omega)]
theorem byte_mix (a b c d : UInt8) : (a ^^^ b) ^^^ (c ^^^ d) = (a ^^^ c) ^^^ (b ^^^ d) := by
  rw [UInt8.xor_assoc, ← UInt8.xor_assoc b c d, UInt8.xor_comm b c, UInt8.xor_assoc c b d, ← UInt8.xor_assoc]
/-- the sum of sums is the sum of each -/
theorem sumR_lin (X z : Nat) (l1 l2 l3 : List (List UInt8)) : ∀ k, (∀ i, i < k → ∀ j, j < z → (l3.getD i []).getD j 0 = (l1.getD i []).getD j 0 ^^^ (l2.getD i []).getD j 0) → ∀ j, j < z → (sumR X z l3 k).getD j 0 = (sumR X z l1 k).getD j 0 ^^^ (sumR X z l2 k).getD j 0
  | 0, _, j, hj => by simp [sumR, List.getD, hj]
  | k + 1, h, j, hj => by
    have ih := sumR_lin X z l1 l2 l3 k (fun i hi => h i (by omega)) j hj
    unfold sumR
    by_cases e : X.testBit k = true
    · rw [if_pos e, if_pos e, if_pos e, xorL_at _ _ _ (by rw [sumR_length]; exact hj), xorL_at _ _ _ (by rw [sumR_length]; exact hj), xorL_at _ _ _ (by rw [sumR_length]; exact hj), ih, h k (by omega) j hj, byte_mix]
    · rw [if_neg e, if_neg e, if_neg e]; exact ih
end Go.Proofs.YtibleaaghhhjkaaDoor.Pc
