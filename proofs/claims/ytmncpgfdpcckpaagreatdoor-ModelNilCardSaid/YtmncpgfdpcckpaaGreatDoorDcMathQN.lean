/- What a decoder's matrix says of an image: plain mathematics. -/
import Derived.Test.YtmncpgfdpcckpaaGreatDoorDcIQN
import Derived.Test.YtmncpgfdpcckpaaGreatDoorZMQN
import Derived.Test.YtmncpgfdpcckpaaGreatDoorZLQN
namespace Go.Proofs.YtmncpgfdpcckpaaGreatDoor.Dc
open Go.RowKit
open VecM RdM Vc Sp Pc El Cd
theorem ext_z {a b : List UInt8} {Z : Nat} (ha : a.length = Z) (hb : b.length = Z) (h : ∀ j, j < Z → a.getD j 0 = b.getD j 0) : a = b := by
 apply List.ext_getElem (by rw [ha, hb])
 intro j h1 h2
 have := h j (by omega)
 simpa [List.getD, h1, h2] using this
theorem sumR_below (z : Nat) (ls : List (List UInt8)) (X : Nat) : ∀ k, (∀ i, i < k → X.testBit i = false) → sumR X z ls k = List.replicate z 0
 | 0, _ => rfl
 | k + 1, h => by
  unfold sumR
  rw [if_neg (by rw [h k (by omega)]; decide)]
  exact sumR_below z ls X k fun i hi => h i (by omega)
theorem xorL_zero_left {a : List UInt8} {z : Nat} (ha : a.length = z) : xorL (List.replicate z 0) a = a := by
 apply ext_z (Z := z) (by rw [xorL_length, List.length_replicate]) ha
 intro j hj
 rw [xorL_at _ _ _ (by rw [List.length_replicate]; exact hj)]
 simp [List.getD, hj]
def dataX (s K P Z : Nat) (img : List UInt8) (X : Nat) : List UInt8 := sumR X Z (allC s K P Z img) (K + P)
theorem parJ_bit (s K j i : Nat) (hi : K ≤ i) : (parJ s K j).testBit i = decide (K + j = i) := by
 unfold parJ
 rw [parX_bit, if_neg (by omega)]
theorem parJ_lt {s K P j : Nat} (hj : j < P) : parJ s K j < 2 ^ (K + P) := by
 apply Nat.lt_pow_two_of_testBit
 intro i hi
 rw [parJ_bit s K j i (by omega)]
 simp; omega
theorem Ls_n {X n : Nat} (hX : X < 2 ^ n) (hn : n ≤ 256) : Ls X = L X n := L_more hX hn
theorem sumF_snoc {l : List (List UInt8)} {x : List UInt8} {Z : Nat} (h0 : l ≠ []) (h : ∀ y ∈ l, y.length = Z) (hx : x.length = Z) : sumF (l ++ [x]) = xorL (sumF l) x := by
 cases l with
 | nil => exact absurd rfl h0
 | cons a t =>
  have ha := h a (by simp)
  rw [List.cons_append, sumF_eq (fun y hy => by
   rcases List.mem_append.1 hy with q | q
   ·rw [h y (by simp [q]), ha]
   ·rw [List.mem_singleton.1 q, hx, ha]), sumF_eq (fun y hy => by rw [h y (by simp [hy]), ha]), sumTo_snoc]
theorem sumR_list {z X : Nat} {ls : List (List UInt8)} : ∀ k, (∀ i, i < k → (ls.getD i []).length = z) → (L X k ≠ [] → sumF ((L X k).map fun i => ls.getD i []) = sumR X z ls k) ∧ (L X k = [] → sumR X z ls k = List.replicate z 0)
 | 0, _ => ⟨fun h => absurd rfl h, fun _ => rfl⟩
 | k + 1, h => by
  obtain ⟨i1, i2⟩ := sumR_list (z := z) (X := X) (ls := ls) k fun i hi => h i (by omega)
  rw [L_snoc]
  unfold sumR
  cases hb : X.testBit k with
  | false =>
   simp only [Bool.false_eq_true, if_false, List.append_nil]
   exact ⟨i1, i2⟩
  | true =>
   simp only [if_true]
   refine ⟨fun _ => ?_, fun e => absurd e (by simp)⟩
   rw [List.map_append, List.map_singleton]
   by_cases e : L X k = []
   ·rw [e, i2 e, xorL_zero_left (h k (by omega))]
    show sumF [_] = _
    rw [sumF_eq (by simp)]
    rfl
   ·rw [sumF_snoc (Z := z) (by simpa using e) (fun y hy => by
     obtain ⟨i, hi, rfl⟩ := List.mem_map.1 hy
     exact h i (by have := (mem_L X k i).1 hi; omega)) (h k (by omega)), i1 e]
theorem dataX_sym {s K P Z id : Nat} {img : List UInt8} (hK : 1 ≤ K) (hn : K + P ≤ 80) : dataX s K P Z img (spX s K P id) = symX s K P Z img id := by
 have hne : L (spX s K P id) (K + P) ≠ [] := by
  rw [← Ls_n (spX_lt (s := s) (id := id)) (by omega)]
  have h := (spX_count (s := s) (id := id) hK hn).1
  intro e; rw [e] at h; simp at h
 unfold symX dataX
 rw [Ls_n (spX_lt (s := s) (id := id)) (by omega), (sumR_list (K + P) fun i hi => allC_zi hi).1 hne]
def parP (s K P : Nat) (X : Nat) : Prop := ∃ j, j < P ∧ X = parJ s K j
theorem matR_got {s K P Z : Nat} (hn : K + P ≤ 80) : ∀ k, k ≤ P → Got (K + P) Z (matR s K P Z k) (parP s K k)
 | 0, _ => (Got.start (K + P) Z).congr fun X => ⟨fun h => h.elim, fun ⟨j, hj, _⟩ => absurd hj (Nat.not_lt_zero j)⟩
 | k + 1, hk => by
  refine ((matR_got hn k (by omega)).add (by omega) (parJ_lt (by omega)) (l := List.replicate Z 0) (by simp)).congr fun X => ⟨?_, ?_⟩
  ·rintro (⟨j, hj, e⟩ | e)
   ·exact ⟨j, by omega, e⟩
   ·exact ⟨k, by omega, e⟩
  ·rintro ⟨j, hj, e⟩
   by_cases h : j < k
   ·exact .inl ⟨j, h, e⟩
   ·exact .inr (by rw [e]; congr 1; omega)
end Go.Proofs.YtmncpgfdpcckpaaGreatDoor.Dc
