/- The pieces of a row as a number: plain mathematics. -/
import Derived.Test.YtibleaaghhhjkaaDoorVecMore
import Derived.Test.YtibleaaghhhjkaaDoorRandTot
import Derived.Test.YtibleaaghhhjkaaDoorDegree
namespace Go.Proofs.YtibleaaghhhjkaaDoor.Sp
open Go.RowKit
open VecM RdM SoM Vc
def degP (n a d : Nat) : Bool := decide (1 ≤ d) && decide (d ≤ n) && decide (sm n (d - 1) ≤ a) && decide (a < sm n d)
theorem degP_iff (n a d : Nat) : degP n a d = true ↔ IsDeg n a d := by
  unfold degP IsDeg; simp [and_assoc]
/-- the degree -/
def degF (n a : Nat) : Nat := ((List.range 81).find? (degP n a)).getD 0
theorem degF_eq {n a d : Nat} (h : IsDeg n a d) (hn : n ≤ 80) : degF n a = d := by
  have hd : d ∈ List.range 81 := by have := h.2.1; simp; omega
  unfold degF
  cases hf : (List.range 81).find? (degP n a) with
  | none =>
    rw [List.find?_eq_none] at hf
    exact absurd ((degP_iff n a d).2 h) (hf d hd)
  | some d' =>
    have h2 := (degP_iff n a d').1 (List.find?_some hf)
    exact (h.uniq h2).symm
theorem deg_exists (n a : Nat) (ha : a < sm n n) : ∃ d, IsDeg n a d := by
  have key : ∀ m, m ≤ n → a < sm n m → ∃ d, 1 ≤ d ∧ d ≤ m ∧ sm n (d - 1) ≤ a ∧ a < sm n d := by
    intro m
    induction m with
    | zero => intro _ h; exact absurd h (by simp [sm])
    | succ m ih =>
      intro hm h
      by_cases h2 : a < sm n m
      · obtain ⟨d, h3, h4, h5⟩ := ih (by omega) h2
        exact ⟨d, h3, by omega, h5⟩
      · exact ⟨m + 1, by omega, by omega, by simpa using h2, h⟩
  obtain ⟨d, h1, h2, h3, h4⟩ := key n (Nat.le_refl n) ha
  exact ⟨d, h1, h2, h3, h4⟩
/-- numbers that are all different, each within: so many bits are set -/
theorem count_fold (n : Nat) (hn : n ≤ 256) : ∀ (l : List Int) (X : Nat), l.Nodup → (∀ z ∈ l, 0 ≤ z ∧ z < (n : Int)) → (∀ z ∈ l, X.testBit z.toNat = false) → (L (l.foldl (setOne n) X) 256).length = (L X 256).length + l.length
  | [], X, _, _, _ => by simp
  | z :: t, X, hd, hr, hb => by
    have hz := hr z (by simp)
    have hzb := hb z (by simp)
    rw [List.nodup_cons] at hd
    have e : setOne n X z = X ||| 2 ^ z.toNat := by unfold setOne; rw [if_pos hz]
    rw [List.foldl_cons, e, count_fold n hn t _ hd.2 (fun y hy => hr y (by simp [hy])) (fun y hy => ?_), L_set X z.toNat hzb 256, if_pos (by omega), List.length_cons]
    · omega
    · rw [set_bit, hb y (by simp [hy])]
      have hy2 := hr y (by simp [hy])
      have : ¬ z.toNat = y.toNat := by
        intro e2
        have : z = y := by omega
        subst this
        exact hd.1 hy
      simp [this]
theorem count_ofL {n : Nat} (hn : n ≤ 256) {l : List Int} (hd : l.Nodup) (hr : ∀ z ∈ l, 0 ≤ z ∧ z < (n : Int)) : (Ls (ofL n l)).length = l.length := by
  have := count_fold n hn l 0 hd hr (fun z _ => by simp)
  rw [L_zero, List.length_nil, Nat.zero_add] at this
  exact this
/-- the row's numbers where chance tells them -/
def chance (s n id : Nat) : List Int := some_ n (sh (seed (s : Int) (id : Int))) (degF n (atx n (mx (sh (seed (s : Int) (id : Int)))).toNat))
/-- the pieces of symbol id -/
def spX (s K P id : Nat) : Nat := if id < K then 2 ^ id else ofL (K + P) (chance s (K + P) id)
theorem spX_lt {s K P id : Nat} : spX s K P id < 2 ^ (K + P) := by
  unfold spX
  split
  · exact Nat.pow_lt_pow_right (by decide) (by omega)
  · exact ofL_lt _
theorem pow_bit (i j : Nat) : (2 ^ i).testBit j = decide (i = j) := Nat.testBit_two_pow
theorem ofL_one (n i : Nat) (h : i < n) : ofL n [(i : Int)] = 2 ^ i := by
  show setOne n 0 (i : Int) = _
  unfold setOne
  rw [if_pos (by omega)]; simp
theorem Ls_pow (i : Nat) (h : i < 256) : Ls (2 ^ i) = [i] := by
  have h1 : (2 ^ i).testBit i = true := by rw [pow_bit]; simp
  have h2 : ∀ j, j < i → (2 ^ i).testBit j = false := fun j hj => by rw [pow_bit]; simp; omega
  have h3 : clr (2 ^ i) i = 0 := by
    apply Nat.eq_of_testBit_eq; intro j
    rw [clr_bit, pow_bit, Nat.zero_testBit]
    by_cases e : i = j
    · subst e; simp
    · simp [e]
  unfold Ls
  rw [L_low _ i 256 h h1 h2, h3, L_zero]
theorem chance_facts {s n id d : Nat} (hn : 1 ≤ n) (hn2 : n ≤ 80) (hd : IsDeg n (atx n (mx (sh (seed (s : Int) (id : Int)))).toNat) d) : (chance s n id).length = d ∧ (chance s n id).Nodup ∧ ∀ z ∈ chance s n id, 0 ≤ z ∧ z < (n : Int) := by
  have e := degF_eq hd hn2
  unfold chance
  rw [e]
  have h1 := some_sub n (by omega) (sh (seed (s : Int) (id : Int))) d hd.2.1
  exact ⟨some_length n _ d hd.2.1, h1.1, h1.2⟩
/-- how many pieces a row has: one at least -/
theorem spX_count {s K P id : Nat} (hK : 1 ≤ K) (hn2 : K + P ≤ 80) : 1 ≤ (Ls (spX s K P id)).length ∧ (Ls (spX s K P id)).length ≤ K + P ∧ (id < K → Ls (spX s K P id) = [id]) := by
  by_cases h : id < K
  · have e : spX s K P id = 2 ^ id := by unfold spX; rw [if_pos h]
    rw [e, Ls_pow id (by omega)]
    exact ⟨by simp, by simp; omega, fun _ => rfl⟩
  · have hm := mx_bounds (sh (seed (s : Int) (id : Int)))
    obtain ⟨d, hd⟩ := deg_exists (K + P) _ (atx_lt (K + P) (mx (sh (seed (s : Int) (id : Int)))).toNat (by omega) hn2 (by omega))
    obtain ⟨h1, h2, h3⟩ := chance_facts (s := s) (id := id) (by omega) hn2 hd
    have e : spX s K P id = ofL (K + P) (chance s (K + P) id) := by unfold spX; rw [if_neg h]
    rw [e, count_ofL (by omega) h2 h3, h1]
    exact ⟨hd.1, hd.2.1, fun h' => absurd h' h⟩
end Go.Proofs.YtibleaaghhhjkaaDoor.Sp
