/- Numbers by chance: plain facts. -/
import Derived.WalkKit
import Derived.OpenShut
namespace Go.Proofs.YtibleaaghhhjkaaDoor
open Go.RowKit
namespace RdM
def sh (x : Int) : Int :=
  let y := if x = 0 then 1 else x
  let a := bits .xor .u32 y (y * 8192 % 4294967296)
  let b := bits .xor .u32 a (a / 131072)
  bits .xor .u32 b (b * 32 % 4294967296)
def mx (x : Int) : Int :=
  let a := bits .xor .u32 x (x / 65536)
  let b := a * 2146121005 % 4294967296
  let c := bits .xor .u32 b (b / 32768)
  let d := c * 2221713035 % 4294967296
  bits .xor .u32 d (d / 65536)
theorem xor_bounds (a b : Int) : 0 ≤ bits .xor .u32 a b ∧ bits .xor .u32 a b ≤ 4294967295 := by
  have h := wf_bits .xor .u32 a b
  simpa [Lit.wf, IntKind.min, IntKind.max, IntKind.signed, IntKind.bits] using h
theorem sh_bounds (x : Int) : 0 ≤ sh x ∧ sh x ≤ 4294967295 := xor_bounds _ _
theorem mx_bounds (x : Int) : 0 ≤ mx x ∧ mx x ≤ 4294967295 := xor_bounds _ _
/-- the number below n that a source in state x tells -/
def bl (x n : Int) : Int := mx (sh x) * n / 4294967296
theorem mul_bounds (y n : Int) (h0 : 0 ≤ y) (h1 : y ≤ 4294967295) (h2 : 1 ≤ n) (h3 : n ≤ 2147483648) : 0 ≤ y * n ∧ y * n ≤ 9223372034707292160 ∧ 0 ≤ y * n / 4294967296 ∧ y * n / 4294967296 < n := by
  have a0 : 0 ≤ y * n := Int.mul_nonneg h0 (by omega)
  have a1 : y * n ≤ 4294967295 * n := Int.mul_le_mul_of_nonneg_right h1 (by omega)
  refine ⟨a0, by omega, by omega, by omega⟩
theorem bl_bounds (x n : Int) (h2 : 1 ≤ n) (h3 : n ≤ 2147483648) : 0 ≤ bl x n ∧ bl x n < n := by
  obtain ⟨h0, h1⟩ := mx_bounds (sh x)
  obtain ⟨_, _, h4, h5⟩ := mul_bounds _ n h0 h1 h2 h3
  exact ⟨h4, h5⟩
/-- the state behind k numbers -/
def shk (x : Int) : Nat → Int
  | 0 => x
  | k + 1 => sh (shk x k)
def swapL (p : List Int) (i j : Nat) : List Int := (p.set i (p.getD j 0)).set j (p.getD i 0)
theorem swapL_length (p : List Int) (i j : Nat) : (swapL p i j).length = p.length := by simp [swapL]
theorem swap_perm (p : List Int) (i j : Nat) (hi : i < p.length) (hj : j < p.length) : (swapL p i j).Perm p := by
  have e : swapL p i j = (p.set i p[j]).set j p[i] := by simp [swapL, List.getD, hi, hj]
  rw [e]
  exact List.set_set_perm hi hj
def ids (n : Nat) : List Int := (List.range n).map fun (j : Nat) => (j : Int)
theorem ids_length (n : Nat) : (ids n).length = n := by simp [ids]
/-- the list behind i exchanges, of n numbers, from state x -/
def go (n : Nat) (x : Int) : Nat → List Int
  | 0 => ids n
  | i + 1 => swapL (go n x i) i (i + (bl (shk x i) ((n : Int) - i)).toNat)
theorem go_length (n : Nat) (x : Int) (i : Nat) : (go n x i).length = n := by
  induction i with
  | zero => exact ids_length n
  | succ i ih => show (swapL _ _ _).length = n; rw [swapL_length, ih]
theorem go_perm (n : Nat) (hn : n ≤ 2147483648) (x : Int) (i : Nat) (hi : i ≤ n) : (go n x i).Perm (ids n) := by
  induction i with
  | zero => exact List.Perm.refl _
  | succ i ih =>
    have hb := bl_bounds (shk x i) ((n : Int) - i) (by omega) (by omega)
    exact (swap_perm _ _ _ (by rw [go_length]; omega) (by rw [go_length]; omega)).trans (ih (by omega))
/-- k of n numbers, rising -/
def some_ (n : Nat) (x : Int) (k : Nat) : List Int := ((go n x k).take k).mergeSort fun a b => decide (a ≤ b)
theorem some_length (n : Nat) (x : Int) (k : Nat) (h : k ≤ n) : (some_ n x k).length = k := by
  simp [some_, List.length_mergeSort, go_length]; omega
theorem nodup_ne {α : Type} {l : List α} : l.Nodup ↔ l.Pairwise fun a b => a ≠ b := Iff.rfl
theorem ids_nodup (n : Nat) : (ids n).Nodup := by
  unfold ids
  rw [nodup_ne, List.pairwise_map]
  exact (nodup_ne.1 List.nodup_range).imp (by intro a b h; omega)
theorem some_sub (n : Nat) (hn : n ≤ 2147483648) (x : Int) (k : Nat) (h : k ≤ n) : (some_ n x k).Nodup ∧ ∀ a ∈ some_ n x k, 0 ≤ a ∧ a < n := by
  have hp : (some_ n x k).Perm ((go n x k).take k) := List.mergeSort_perm _ _
  have hsub : ((go n x k).take k).Sublist (go n x k) := List.take_sublist _ _
  have hg := go_perm n hn x k h
  constructor
  · exact hp.nodup_iff.2 ((hg.nodup_iff.2 (ids_nodup n)).sublist hsub)
  · intro a ha
    have := hg.mem_iff.1 (hsub.mem (hp.mem_iff.1 ha))
    simp only [ids, List.mem_map, List.mem_range] at this
    obtain ⟨j, hj, rfl⟩ := this
    omega
theorem some_sorted (n : Nat) (x : Int) (k : Nat) : (some_ n x k).Pairwise fun a b => a ≤ b := by
  have := List.pairwise_mergeSort (le := fun (a b : Int) => decide (a ≤ b)) (by intro a b c h1 h2; simp at *; omega) (by intro a b; simp; omega) ((go n x k).take k)
  exact this.imp (by intro a b h; simpa using h)
theorem some_rises (n : Nat) (hn : n ≤ 2147483648) (x : Int) (k : Nat) (h : k ≤ n) (i : Nat) (hi : i + 1 < (some_ n x k).length) : (some_ n x k)[i] < (some_ n x k)[i + 1] := by
  have h1 := (List.pairwise_iff_getElem.1 (some_sorted n x k)) i (i + 1) (by omega) hi (by omega)
  have h2 := (List.pairwise_iff_getElem.1 (nodup_ne.1 (some_sub n hn x k h).1)) i (i + 1) (by omega) hi (by omega)
  omega
theorem some_all (n : Nat) (hn : n ≤ 2147483648) (x : Int) : some_ n x n = ids n := by
  have hp : (some_ n x n).Perm (ids n) := (List.mergeSort_perm _ _).trans (by rw [List.take_of_length_le (by rw [go_length]; exact Nat.le_refl _)]; exact go_perm n hn x n (Nat.le_refl _))
  refine List.Perm.eq_of_pairwise (le := fun (a b : Int) => a ≤ b) (fun a b _ _ h1 h2 => by omega) (some_sorted n x n) ?_ hp
  unfold ids
  rw [List.pairwise_map]
  exact List.pairwise_lt_range.imp (by intro a b h; omega)
end RdM
end Go.Proofs.YtibleaaghhhjkaaDoor
