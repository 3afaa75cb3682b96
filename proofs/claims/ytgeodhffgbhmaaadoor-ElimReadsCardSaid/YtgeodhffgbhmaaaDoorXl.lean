/- Bytes by exclusive or, one after another. -/
import Derived.Lib.Hide
namespace Go.Proofs.YtgeodhffgbhmaaaDoor
/-- a's bytes, the first i of them changed by b's -/
def xl (a b : List UInt8) (i : Nat) : List UInt8 := (List.range a.length).map fun j => if j < i then a.getD j 0 ^^^ b.getD j 0 else a.getD j 0
theorem xl_length (a b : List UInt8) (i : Nat) : (xl a b i).length = a.length := by simp [xl]
theorem xl_get (a b : List UInt8) (i j : Nat) (h : j < a.length) : (xl a b i)[j]? = some (if j < i then a.getD j 0 ^^^ b.getD j 0 else a.getD j 0) := by simp [xl, h]
theorem xl_getD (a b : List UInt8) (i j : Nat) (h : j < a.length) : (xl a b i).getD j 0 = if j < i then a.getD j 0 ^^^ b.getD j 0 else a.getD j 0 := by
  rw [List.getD_eq_getElem?_getD, xl_get a b i j h]; rfl
theorem xl_zero (a b : List UInt8) : xl a b 0 = a := by
  apply List.ext_getElem?
  intro j
  by_cases h : j < a.length
  · rw [xl_get a b 0 j h, List.getElem?_eq_getElem h]; simp [List.getD, h]
  · rw [List.getElem?_eq_none (by rw [xl_length]; omega), List.getElem?_eq_none (by omega)]
theorem xl_set (a b : List UInt8) (i : Nat) (h : i < a.length) : (xl a b i).set i (a.getD i 0 ^^^ b.getD i 0) = xl a b (i + 1) := by
  apply List.ext_getElem?
  intro j
  rw [List.getElem?_set]
  by_cases hj : j < a.length
  · rw [xl_get a b (i + 1) j hj]
    by_cases e : i = j
    · subst e; simp [xl_length, h]
    · rw [if_neg e, xl_get a b i j hj]
      by_cases h1 : j < i
      · rw [if_pos h1, if_pos (by omega)]
      · rw [if_neg h1, if_neg (by omega)]
  · rw [List.getElem?_eq_none (by rw [xl_length]; omega)]
    rw [List.getElem?_eq_none (by rw [xl_length]; omega)]
    split
    · split
      · rename_i h3; rw [xl_length] at h3; omega
      · rfl
    · rfl
def xorL (a b : List UInt8) : List UInt8 := xl a b a.length
theorem xorL_length (a b : List UInt8) : (xorL a b).length = a.length := xl_length a b _
end Go.Proofs.YtgeodhffgbhmaaaDoor
