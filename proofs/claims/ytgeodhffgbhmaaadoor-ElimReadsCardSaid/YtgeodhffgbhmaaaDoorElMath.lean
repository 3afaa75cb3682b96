/- Rows that are reduced, as data. -/
import Derived.Test.YtgeodhffgbhmaaaDoorElRedN
namespace Go.Proofs.YtgeodhffgbhmaaaDoor.El
open VecM Vc
theorem low_ex {X n : Nat} (hX : X < 2 ^ n) (h0 : X ≠ 0) : ∃ f, f < n ∧ X.testBit f = true ∧ ∀ j, j < f → X.testBit j = false := by
  have key : ∀ k, k ≤ n → (∃ f, f < k ∧ X.testBit f = true ∧ ∀ j, j < f → X.testBit j = false) ∨ ∀ j, j < k → X.testBit j = false := by
    intro k
    induction k with
    | zero => exact fun _ => .inr fun j hj => absurd hj (Nat.not_lt_zero j)
    | succ k ih =>
      intro hk
      rcases ih (by omega) with ⟨f, h1, h2⟩ | h
      · exact .inl ⟨f, by omega, h2⟩
      · cases hb : X.testBit k with
        | true => exact .inl ⟨k, by omega, hb, h⟩
        | false =>
          refine .inr fun j hj => ?_
          rcases Nat.lt_succ_iff_lt_or_eq.1 hj with h1 | h1
          · exact h j h1
          · rw [h1]; exact hb
  rcases key n (Nat.le_refl _) with h | h
  · exact h
  · exfalso
    apply h0
    apply Nat.eq_of_testBit_eq
    intro j
    rw [Nat.zero_testBit]
    by_cases hj : j < n
    · exact h j hj
    · exact Nat.testBit_lt_two_pow (Nat.lt_of_lt_of_le hX (Nat.pow_le_pow_right (by decide) (by omega)))
theorem L_empty {X f : Nat} (h : ∀ j, j < f → X.testBit j = false) : L X f = [] := by
  unfold L
  rw [List.filter_eq_nil_iff]
  intro j hj
  rw [List.mem_range] at hj
  rw [h j hj]; simp
theorem firstI_low {X f n : Nat} (hf : f < n) (hb : X.testBit f = true) (h : ∀ j, j < f → X.testBit j = false) : firstI (L X n) = (f : Int) := by
  have e : List.range n = List.range f ++ (f :: (List.range (n - f - 1)).map (f + 1 + ·)) := by
    have h1 : n = f + (n - f) := by omega
    have h2 : n - f = 1 + (n - f - 1) := by omega
    rw [h1, List.range_add, h2, List.range_add, List.map_append]
    have h3 : f + (1 + (n - f - 1)) - f - 1 = n - f - 1 := by omega
    rw [h3]
    simp [Nat.add_assoc]
  unfold L
  rw [e, List.filter_append]
  have h0 := L_empty h
  unfold L at h0
  rw [h0, List.nil_append, List.filter_cons, if_pos hb]
  rfl
theorem firstI_zero : firstI (Ls 0) = -1 := by
  unfold Ls; rw [L_zero]; rfl
/-- M with X, l as its row f: what has bit f is changed by it -/
def chgD (X : Nat) (l : List UInt8) (f : Nat) (o : Option (Nat × List UInt8)) : Option (Nat × List UInt8) := o.map fun r => if r.1.testBit f then (r.1 ^^^ X, xorL r.2 l) else r
def addM (M : Mx) (X : Nat) (l : List UInt8) (f : Nat) : Mx := (M.map (chgD X l f)).set f (some (X, l))
theorem redM_bits (M : Mx) (X : Nat) (l l' : List UInt8) (k : Nat) : (redM M X l k).1 = (redM M X l' k).1 := by
  induction k with
  | zero => rfl
  | succ k ih =>
    cases h : M.getD k none with
    | none => rw [redM_none h, redM_none h]; exact ih
    | some r =>
      rw [redM_some h, redM_some h, ih]
      split
      · rfl
      · exact ih
end Go.Proofs.YtgeodhffgbhmaaaDoor.El
