/- The places of a row of parity, and their sum: plain facts. -/
import Derived.Test.YtibleaaghhhjkaaDoorPcLin
import Derived.Test.YtibleaaghhhjkaaDoorPcPcs
namespace Go.Proofs.YtibleaaghhhjkaaDoor.Pc
open Go.RowKit
open VecM RdM Vc Sp
theorem L_step (X n : Nat) : L X (n + 1) = L X n ++ (if X.testBit n then [n] else []) := by
  unfold L
  rw [List.range_succ, List.filter_append]
  congr 1
  cases h : X.testBit n <;> simp [h]
theorem putBit (X k i : Nat) (on : Bool) : (put X k on).testBit i = if i = k then on else X.testBit i := by
  unfold put
  cases on with
  | true =>
    rw [if_pos rfl, Nat.testBit_or, Nat.testBit_two_pow]
    by_cases e : i = k
    · subst e; simp
    · rw [if_neg e]; simp; intro h; exact absurd h.symm e
  | false =>
    rw [if_neg (by decide), clr_bit]
    by_cases e : i = k
    · subst e; simp
    · rw [if_neg e]; simp [e]
theorem parX_bit (x0 : Int) (b i : Nat) : ∀ k, (parX x0 b k).testBit i = if i < k then odd (mx (shk x0 (i + 1))) else decide (b = i)
  | 0 => by rw [if_neg (by omega)]; exact Nat.testBit_two_pow
  | k + 1 => by
    show (put (parX x0 b k) k _).testBit i = _
    rw [putBit, parX_bit x0 b i k]
    by_cases e : i = k
    · subst e; rw [if_pos rfl, if_pos (by omega)]
    · rw [if_neg e]
      by_cases h : i < k
      · rw [if_pos h, if_pos (by omega)]
      · rw [if_neg h, if_neg (by omega)]
theorem L_none (X a : Nat) : ∀ d, (∀ i, a ≤ i → i < a + d → X.testBit i = false) → L X (a + d) = L X a
  | 0, _ => rfl
  | d + 1, h => by
    rw [← Nat.add_assoc, L_step, h (a + d) (by omega) (by omega), L_none X a d (fun i h1 h2 => h i h1 (by omega))]
    simp
/-- the places of row j: some of the first K, then its own -/
theorem Ls_par (s K j : Nat) (h : K + j < 256) : L (parJ s K j) 256 = L (parJ s K j) K ++ [K + j] := by
  have hbit : ∀ i, K ≤ i → (parJ s K j).testBit i = decide (K + j = i) := fun i hi => by
    unfold parJ
    rw [parX_bit, if_neg (by omega)]
  have h1 : L (parJ s K j) (K + j) = L (parJ s K j) K := L_none _ K j (fun i hi hi2 => by rw [hbit i hi]; simp; omega)
  have h2 : L (parJ s K j) (K + j + 1) = L (parJ s K j) K ++ [K + j] := by
    rw [L_step, h1, hbit (K + j) (by omega)]
    simp
  have h3 : L (parJ s K j) (K + j + 1 + (255 - (K + j))) = L (parJ s K j) (K + j + 1) := L_none _ _ _ (fun i hi hi2 => by rw [hbit i (by omega)]; simp; omega)
  rw [show 256 = K + j + 1 + (255 - (K + j)) by omega, h3, h2]
/-- the sum of those places of all -/
def foldS (z : Nat) (all : List (List UInt8)) (l : List Nat) : List UInt8 := l.foldl (fun a i => xorL a (all.getD i [])) (List.replicate z 0)
theorem foldS_snoc (z : Nat) (all : List (List UInt8)) (l : List Nat) (i : Nat) : foldS z all (l ++ [i]) = xorL (foldS z all l) (all.getD i []) := by simp [foldS]
theorem foldS_length (z : Nat) (all : List (List UInt8)) (l : List Nat) : (foldS z all l).length = z := by
  have : ∀ (l : List Nat) (a : List UInt8), (l.foldl (fun a i => xorL a (all.getD i [])) a).length = a.length := by
    intro l
    induction l with
    | nil => intro a; rfl
    | cons x t ih => intro a; show (t.foldl _ (xorL a _)).length = _; rw [ih, xorL_length]
  unfold foldS
  rw [this]; simp
theorem foldS_sumR (X z : Nat) (ls all : List (List UInt8)) : ∀ k, (∀ i, i < k → all.getD i [] = ls.getD i []) → foldS z all (L X k) = sumR X z ls k
  | 0, _ => by simp [foldS, L, sumR]
  | k + 1, h => by
    have ih := foldS_sumR X z ls all k (fun i hi => h i (by omega))
    rw [L_step]
    unfold sumR
    by_cases e : X.testBit k = true
    · rw [if_pos e, if_pos e, foldS_snoc, ih, h k (by omega)]
    · rw [if_neg e, if_neg e, List.append_nil, ih]
/-- THE SUM OF ALL PIECES OF A ROW IS NOTHING -/
theorem par_nothing (s K P Z j : Nat) (ls : List (List UInt8)) (hl : ls.length = K) (hj : j < P) (h : K + j < 256) : foldS Z (allP s K Z ls P) (L (parJ s K j) 256) = List.replicate Z 0 := by
  have h1 : ∀ i, i < K → (allP s K Z ls P).getD i [] = ls.getD i [] := fun i hi => by
    unfold allP
    rw [List.getD_eq_getElem?_getD, List.getD_eq_getElem?_getD, List.getElem?_append_left (by omega)]
  have h2 : (allP s K Z ls P).getD (K + j) [] = sumR (parJ s K j) Z ls K := by
    unfold allP
    rw [List.getD_eq_getElem?_getD, List.getElem?_append_right (by omega), hl, show K + j - K = j by omega]
    simp [hj]
  rw [Ls_par s K j h, foldS_snoc, foldS_sumR _ _ ls _ K h1, h2, xorL_self, sumR_length]
end Go.Proofs.YtibleaaghhhjkaaDoor.Pc
