/- block.Sum: by contract. -/
import Derived.Test.YtfkklckoalffkaaBlkAwake
import Derived.Test.YtfkklckoalffkaaClone
import Derived.Deep.LoopGhost
namespace Go.Proofs.Ytfkklckoalffkaa
open Go.RowKit
/-- a's bytes, the first i of them changed by b's -/
def xl (a b : List UInt8) (i : Nat) : List UInt8 := (List.range a.length).map fun j => if j < i then a.getD j 0 ^^^ b.getD j 0 else a.getD j 0
theorem xl_length (a b : List UInt8) (i : Nat) : (xl a b i).length = a.length := by simp [xl]
theorem xl_get (a b : List UInt8) (i j : Nat) (h : j < a.length) : (xl a b i)[j]? = some (if j < i then a.getD j 0 ^^^ b.getD j 0 else a.getD j 0) := by simp [xl, h]
theorem xl_getD (a b : List UInt8) (i j : Nat) (h : j < a.length) : (xl a b i).getD j 0 = if j < i then a.getD j 0 ^^^ b.getD j 0 else a.getD j 0 := by
  rw [List.getD_eq_getElem?_getD, xl_get a b i j h]; rfl
theorem xl_zero (a b : List UInt8) : xl a b 0 = a := by
  apply List.ext_getElem?
  intro j
  by_cases h : j < a.length
  · rw [xl_get a b 0 j h, List.getElem?_eq_getElem h]; simp [List.getD, h]
  · rw [List.getElem?_eq_none (by rw [xl_length]; omega), List.getElem?_eq_none (by omega)]
theorem xl_set (a b : List UInt8) (i : Nat) (h : i < a.length) : (xl a b i).set i (a.getD i 0 ^^^ b.getD i 0) = xl a b (i + 1) := by
  apply List.ext_getElem?
  intro j
  rw [List.getElem?_set]
  by_cases hj : j < a.length
  · rw [xl_get a b (i + 1) j hj]
    by_cases e : i = j
    · subst e; simp [xl_length, h]
    · rw [if_neg e, xl_get a b i j hj]
      by_cases h1 : j < i
      · rw [if_pos h1, if_pos (by omega)]
      · rw [if_neg h1, if_neg (by omega)]
  · rw [List.getElem?_eq_none (by rw [xl_length]; omega)]
    rw [List.getElem?_eq_none (by rw [xl_length]; omega)]
    split
    · split
      · rename_i h3; rw [xl_length] at h3; omega
      · rfl
    · rfl
def xorL (a b : List UInt8) : List UInt8 := xl a b a.length
theorem xorL_length (a b : List UInt8) : (xorL a b).length = a.length := xl_length a b _
def sumTo (h : List UInt8) (t : List (List UInt8)) : List UInt8 := t.foldl xorL h
theorem sumTo_length (h : List UInt8) (t : List (List UInt8)) : (sumTo h t).length = h.length := by
  induction t generalizing h with
  | nil => rfl
  | cons x t ih => show (sumTo (xorL h x) t).length = _; rw [ih, xorL_length]
theorem sumTo_snoc (h : List UInt8) (t : List (List UInt8)) (x : List UInt8) : sumTo h (t ++ [x]) = xorL (sumTo h t) x := by simp [sumTo]
/-- the sum of all rows; nothing, where their lengths part -/
def sumF : List (List UInt8) → List UInt8
  | [] => []
  | h :: t => if ∀ x ∈ t, x.length = h.length then sumTo h t else []
theorem xor_int (a b : UInt8) : bits .xor .u8 (a.toNat : Int) (b.toNat : Int) = ((a ^^^ b).toNat : Int) := by
  rw [u8_xor_nat _ _ (CrcM.b_lt _) (CrcM.b_lt _), ← UInt8.toNat_xor]
theorem Rows2.tail {w : World} {B n cap b o : Nat} {es : List BRow} (h : Rows2 w B (some ⟨b, o, none⟩) (n + 1) es) (hc : n + 1 ≤ cap) : Rows2 w B (if cap = 1 then some ⟨b, o, none⟩ else some ⟨b, o + 1, none⟩) n (es.drop 1) := by
  refine ⟨?_, fun r hr => h.2 r (List.mem_of_mem_drop hr)⟩
  have := h.1.tail (k := 1) (cap := cap) (by omega) hc
  rw [List.map_drop]
  simpa [plain_add] using this
theorem Rows2.len {w : World} {B n : Nat} {A : Option Addr} {es : List BRow} (h : Rows2 w B A n es) : es.length = n := by have := h.1.1; simpa using this
end Go.Proofs.Ytfkklckoalffkaa
