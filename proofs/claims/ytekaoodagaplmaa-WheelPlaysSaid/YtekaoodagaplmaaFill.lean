/- Rows of bytes that a loop fills, place by place. -/
import Derived.Test.YtekaoodagaplmaaBase
namespace Go.Proofs.Ytekaoodagaplmaa
open Go.RowKit
/-- the first k places hold f, the rest is nought -/
def fill (n : Nat) (f : Nat → UInt8) (k : Nat) : List UInt8 := (List.range n).map fun j => if j < k then f j else 0
theorem fill_length (n : Nat) (f : Nat → UInt8) (k : Nat) : (fill n f k).length = n := by simp [fill]
theorem fill_zero (n : Nat) (f : Nat → UInt8) : fill n f 0 = List.replicate n 0 := by
  apply List.ext_getElem
  · simp [fill]
  · intro i h1 h2; simp [fill]
theorem fill_get (n : Nat) (f : Nat → UInt8) (k j : Nat) (h : j < n) : (fill n f k)[j]? = some (if j < k then f j else 0) := by
  simp [fill, h]
theorem fill_set (n : Nat) (f : Nat → UInt8) (k : Nat) (h : k < n) : (fill n f k).set k (f k) = fill n f (k + 1) := by
  apply List.ext_getElem?
  intro j
  rw [List.getElem?_set]
  by_cases hj : j < n
  · rw [fill_get n f k j hj, fill_get n f (k + 1) j hj]
    by_cases e : k = j
    · subst e; simp [fill_length, h]
    · rw [if_neg e]
      congr 1
      by_cases h1 : j < k
      · rw [if_pos h1, if_pos (by omega)]
      · rw [if_neg h1, if_neg (by omega)]
  · have h1 : (fill n f k)[j]? = none := List.getElem?_eq_none (by rw [fill_length]; omega)
    have h2 : (fill n f (k + 1))[j]? = none := List.getElem?_eq_none (by rw [fill_length]; omega)
    rw [h1, h2]
    split
    · split
      · rename_i h3; rw [fill_length] at h3; omega
      · rfl
    · rfl
theorem bv_fill_set (n : Nat) (f : Nat → UInt8) (k : Nat) (h : k < n) : (bv (fill n f k)).set k (.int .u8 ((f k).toNat : Int)) = bv (fill n f (k + 1)) := by
  rw [← fill_set n f k h]; simp [bv, List.map_set]
theorem bv_fill_get (n : Nat) (f : Nat → UInt8) (k j : Nat) (hj : j < k) (h : j < n) : (bv (fill n f k))[j]? = some (.int .u8 ((f j).toNat : Int)) := by
  rw [bv_get _ _ (by rw [fill_length]; exact h)]
  simp [fill, hj]
theorem bv_zeros (n : Nat) : List.replicate n (Value.int .u8 0) = bv (List.replicate n 0) := by simp [bv]
end Go.Proofs.Ytekaoodagaplmaa
