/- Rows of bits: further plain facts; numbers that came in. -/
import Derived.Test.YtibleaaghhhjkaaDoorVecBag
namespace Go.Proofs.YtibleaaghhhjkaaDoor.Vc
open Go.RowKit
open VecM
/-- numbers that came in -/
def NumsIn (w : World) (A : Option Addr) (n : Nat) (zs : List Int) : Prop :=
  ∀ i, i < n → ∃ b o, A = some ⟨b, o, none⟩ ∧ b < w.heap.size ∧ w.cell? ⟨b, o + i, none⟩ = some (.int .i64 (zs.getD i 0)) ∧ -9223372036854775808 ≤ zs.getD i 0 ∧ zs.getD i 0 ≤ 9223372036854775807
theorem row_of_nums {w : World} {A : Option Addr} {n : Nat} {zs : List Int} (h : NumsIn w A n zs) : Row w w.heap.size A n (nv ((List.range n).map fun i => zs.getD i 0)) := by
  refine ⟨by simp [nv], fun hn => ?_⟩
  obtain ⟨b, o, e, hb, _⟩ := h 0 hn
  refine ⟨b, o, e, hb, fun j u hu => ?_⟩
  have hj : j < n := by have := (List.getElem?_eq_some_iff.1 hu).1; simpa [nv] using this
  obtain ⟨b2, o2, e2, _, hc, _⟩ := h j hj
  rw [e] at e2
  injection e2 with e2
  injection e2 with e3 e4
  subst e3 e4
  rw [hc, ← hu]
  simp [nv, hj]
theorem xor_back (X Y : Nat) : X ^^^ Y ^^^ Y = X := by rw [Nat.xor_assoc, Nat.xor_self, Nat.xor_zero]
theorem xor_zero_iff (X Y : Nat) : X ^^^ Y = 0 ↔ X = Y := by
  constructor
  · intro h
    have := xor_back X Y
    rw [h, Nat.zero_xor] at this
    exact this.symm
  · rintro rfl; exact Nat.xor_self X
theorem ls_zero {X n : Nat} (hX : X < 2 ^ n) (hn : n ≤ 256) : (Ls X).length = 0 ↔ X = 0 := by
  constructor
  · intro h
    exact L_nil (n := 256) (Nat.lt_of_lt_of_le hX (Nat.pow_le_pow_right (by decide) hn)) (List.eq_nil_of_length_eq_zero h)
  · rintro rfl; unfold Ls; rw [L_zero]; rfl
theorem L_snoc (X n : Nat) : L X (n + 1) = L X n ++ (if X.testBit n then [n] else []) := by
  unfold L
  rw [List.range_succ, List.filter_append]
  congr 1
  cases h : X.testBit n <;> simp [h]
theorem set_bit (X i j : Nat) : (X ||| 2 ^ i).testBit j = (X.testBit j || decide (i = j)) := by rw [Nat.testBit_or, Nat.testBit_two_pow]
theorem L_set (X i : Nat) (h : X.testBit i = false) : ∀ n, (L (X ||| 2 ^ i) n).length = (L X n).length + if i < n then 1 else 0
  | 0 => rfl
  | n + 1 => by
    rw [L_snoc, L_snoc, List.length_append, List.length_append, L_set X i h n, set_bit]
    by_cases e : i = n
    · subst e
      simp [h]
    · by_cases h1 : i < n
      · have h2 : i < n + 1 := by omega
        simp only [e, h1, h2, decide_false, Bool.or_false, if_true]; omega
      · have h2 : ¬ i < n + 1 := by omega
        simp only [e, h1, h2, decide_false, Bool.or_false, if_false]; omega
theorem set_clr (X i : Nat) (h : X.testBit i = true) : clr X i ||| 2 ^ i = X := by
  apply Nat.eq_of_testBit_eq; intro j
  rw [set_bit, clr_bit]
  by_cases e : i = j
  · subst e; simp [h]
  · have e2 : j ≠ i := fun e' => e e'.symm
    simp [e, e2]
theorem clr_set (X i : Nat) (h : X.testBit i = false) : clr (X ||| 2 ^ i) i = X := by
  apply Nat.eq_of_testBit_eq; intro j
  rw [clr_bit, set_bit]
  by_cases e : i = j
  · subst e; simp [h]
  · have e2 : j ≠ i := fun e' => e e'.symm
    simp [e, e2]
/-- the other way round, and back -/
theorem put_facts (X i : Nat) (b : Bool) (h : X.testBit i = b) (hi : i < 256) : (put X i (!b)).testBit i = (!b) ∧ X ≠ put X i (!b) ∧ put (put X i (!b)) i b = X ∧ (if b then (Ls (put X i (!b))).length + 1 = (Ls X).length else (Ls (put X i (!b))).length = (Ls X).length + 1) := by
  cases b with
  | true =>
    have e : put X i (!true) = clr X i := rfl
    rw [e]
    have h1 : (clr X i).testBit i = false := by rw [clr_bit]; simp
    refine ⟨h1, fun e => ?_, set_clr X i h, ?_⟩
    · rw [← e, h] at h1; cases h1
    · have h2 := L_set (clr X i) i h1 256
      rw [set_clr X i h, if_pos hi] at h2
      exact h2.symm
  | false =>
    have e : put X i (!false) = X ||| 2 ^ i := rfl
    rw [e]
    have h1 : (X ||| 2 ^ i).testBit i = true := by rw [set_bit]; simp
    refine ⟨h1, fun e => ?_, clr_set X i h, ?_⟩
    · rw [← e, h] at h1; cases h1
    · have h2 := L_set X i h 256
      rw [if_pos hi] at h2
      exact h2
theorem foldl_bit (n j : Nat) : ∀ (l : List Int) (X : Nat), (l.foldl (setOne n) X).testBit j = (X.testBit j || (decide (j < n) && decide ((j : Int) ∈ l)))
  | [], X => by simp
  | z :: t, X => by
    rw [List.foldl_cons, foldl_bit n j t]
    unfold setOne
    by_cases hz : 0 ≤ z ∧ z < (n : Int)
    · rw [if_pos hz, Nat.testBit_or, Nat.testBit_two_pow]
      by_cases e : z.toNat = j
      · have h1 : (j : Int) = z := by omega
        have h2 : j < n := by omega
        simp [e, h1, h2]
      · have h1 : ¬ (j : Int) = z := by omega
        simp [e, h1]
    · rw [if_neg hz]
      by_cases h2 : j < n
      · have h1 : ¬ (j : Int) = z := by omega
        simp [h1]
      · simp [h2]
theorem ofL_bit (n j : Nat) (l : List Int) : (ofL n l).testBit j = (decide (j < n) && decide ((j : Int) ∈ l)) := by
  unfold ofL; rw [foldl_bit]; simp
theorem ofL_mem (n : Nat) (l m : List Int) (h : ∀ z, z ∈ l ↔ z ∈ m) : ofL n l = ofL n m := by
  apply Nat.eq_of_testBit_eq; intro j
  rw [ofL_bit, ofL_bit]
  simp [h]
theorem ofL_turn (n k : Nat) (l : List Int) : ofL n (l.drop k ++ l ++ l.take k) = ofL n l := by
  apply ofL_mem
  intro z
  simp only [List.mem_append]
  constructor
  · rintro ((h | h) | h)
    · exact List.mem_of_mem_drop h
    · exact h
    · exact List.mem_of_mem_take h
  · exact fun h => .inl (.inr h)
theorem ofL_Ls {X n : Nat} (hX : X < 2 ^ n) (hn : n ≤ 256) : ofL n ((Ls X).map fun i : Nat => (i : Int)) = X := by
  apply Nat.eq_of_testBit_eq; intro j
  rw [ofL_bit]
  by_cases h : j < n
  · have h1 : ((j : Int) ∈ (Ls X).map fun i : Nat => (i : Int)) ↔ X.testBit j = true := by
      simp only [List.mem_map]
      constructor
      · rintro ⟨i, hi, e⟩
        have : i = j := by omega
        subst this
        exact ((mem_L X 256 i).1 hi).2
      · exact fun h2 => ⟨j, (mem_L X 256 j).2 ⟨by omega, h2⟩, rfl⟩
    cases hb : X.testBit j with
    | true => simp only [h, decide_true, Bool.true_and, decide_eq_true_iff]; exact h1.2 hb
    | false => simp only [h, decide_true, Bool.true_and, decide_eq_false_iff_not]; exact fun h2 => by rw [h1.1 h2] at hb; cases hb
  · rw [Nat.testBit_lt_two_pow (Nat.lt_of_lt_of_le hX (Nat.pow_le_pow_right (by decide) (by omega)))]
    simp [h]
theorem nv_one (l : List Int) : ∀ u ∈ nv l, u.oneCell' = true := by
  intro u hu
  simp only [nv, List.mem_map] at hu
  obtain ⟨x, _, rfl⟩ := hu
  rfl
theorem nv_drop (l : List Int) (k : Nat) : (nv l).drop k = nv (l.drop k) := by simp [nv]
theorem nv_take (l : List Int) (k : Nat) : (nv l).take k = nv (l.take k) := by simp [nv]
end Go.Proofs.YtibleaaghhhjkaaDoor.Vc
