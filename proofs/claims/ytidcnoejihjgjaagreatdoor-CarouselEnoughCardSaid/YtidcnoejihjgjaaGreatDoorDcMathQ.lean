/- What a decoder's matrix says of an image: plain mathematics. -/
import Derived.Test.YtidcnoejihjgjaaGreatDoorDcIQ
import Derived.Test.YtidcnoejihjgjaaGreatDoorZMQ
import Derived.Test.YtidcnoejihjgjaaGreatDoorZLQ
namespace Go.Proofs.YtidcnoejihjgjaaGreatDoor.Dc
open Go.RowKit
open VecM RdM Vc Sp Pc El Cd
theorem parJ_bit (s K j i : Nat) (hi : K ≤ i) : (parJ s K j).testBit i = decide (K + j = i) := by
  unfold parJ
  rw [parX_bit, if_neg (by omega)]
theorem parJ_lt {s K P j : Nat} (hj : j < P) : parJ s K j < 2 ^ (K + P) := by
  apply Nat.lt_pow_two_of_testBit
  intro i hi
  rw [parJ_bit s K j i (by omega)]
  simp; omega
/-- the rows that a decoder has at first -/
def parP (s K P : Nat) (X : Nat) : Prop := ∃ j, j < P ∧ X = parJ s K j
theorem matR_got {s K P Z : Nat} (hn : K + P ≤ 80) : ∀ k, k ≤ P → Got (K + P) Z (matR s K P Z k) (parP s K k)
  | 0, _ => (Got.start (K + P) Z).congr fun X => ⟨fun h => h.elim, fun ⟨j, hj, _⟩ => absurd hj (Nat.not_lt_zero j)⟩
  | k + 1, hk => by
    refine ((matR_got hn k (by omega)).add (by omega) (parJ_lt (by omega)) (l := List.replicate Z 0) (by simp)).congr fun X => ⟨?_, ?_⟩
    · rintro (⟨j, hj, e⟩ | e)
      · exact ⟨j, by omega, e⟩
      · exact ⟨k, by omega, e⟩
    · rintro ⟨j, hj, e⟩
      by_cases h : j < k
      · exact .inl ⟨j, h, e⟩
      · exact .inr (by rw [e]; congr 1; omega)
theorem matR_rank {s K P Z : Nat} (hn : K + P ≤ 80) : ∀ k, k ≤ P → rankM (matR s K P Z k) = k
  | 0, _ => by show rankM (List.replicate (K + P) none) = 0; simp [rankM]
  | k + 1, hk => by
    have hg := matR_got (s := s) (Z := Z) hn k (by omega)
    have hnew : (addMx (K + P) (matR s K P Z k) (parJ s K k) (List.replicate Z 0)).2 = true := by
      rw [hg.says]
      intro hs
      have := span_bit (j := K + k) (fun X hX => by
        obtain ⟨j, hj, e⟩ := hX
        rw [e, parJ_bit s K j _ (by omega)]
        simp; omega) hs
      rw [parJ_bit s K k _ (by omega)] at this
      simp at this
    have hr := rank_add hg.inv (by omega) (parJ_lt (s := s) (K := K) (P := P) (j := k) (by omega)) (l := List.replicate Z 0) (by simp)
    show rankM (addMx (K + P) (matR s K P Z k) (parJ s K k) (List.replicate Z 0)).1 = k + 1
    rw [hr, hnew, matR_rank hn k (by omega)]
    rfl
/-- where all pieces of the image are known, all is -/
theorem got_full {s K P Z : Nat} {M : Mx} {Q : Nat → Prop} (h : Got (K + P) Z M Q) (hpar : ∀ j, j < P → Q (parJ s K j)) (hk : ∀ i, i < K → Q (2 ^ i)) : rankM M = K + P := by
  have h1 : ∀ i, i < K → Ker (K + P) M (2 ^ i) := fun i hi => (h.ker _).2 (.one (hk i hi))
  have hsum : ∀ (X : Nat) k, k ≤ K → (∀ i, k ≤ i → X.testBit i = false) → Ker (K + P) M X := by
    intro X k
    induction k generalizing X with
    | zero =>
      intro _ hb
      have : X = 0 := Nat.eq_of_testBit_eq fun i => by rw [hb i (Nat.zero_le _), Nat.zero_testBit]
      rw [this]; exact ker_zero
    | succ k ih =>
      intro hk2 hb
      by_cases e : X.testBit k = true
      · have h2 := ih (X ^^^ 2 ^ k) (by omega) (fun i hi => by
          rw [Nat.testBit_xor, Nat.testBit_two_pow]
          by_cases e2 : k = i
          · subst e2; simp [e]
          · rw [hb i (by omega)]; simp [e2])
        have h3 := ker_xor h2 (h1 k (by omega))
        rwa [Nat.xor_assoc, Nat.xor_self, Nat.xor_zero] at h3
      · refine ih X (by omega) fun i hi => ?_
        by_cases e2 : k = i
        · subst e2; simpa using e
        · exact hb i (by omega)
  refine full_of_units h.inv fun i hi => ?_
  by_cases hik : i < K
  · exact h1 i hik
  · have hp : Ker (K + P) M (parJ s K (i - K)) := (h.ker _).2 (.one (hpar (i - K) (by omega)))
    have h2 := hsum (parJ s K (i - K) ^^^ 2 ^ i) K (Nat.le_refl _) (fun q hq => by
      rw [Nat.testBit_xor, Nat.testBit_two_pow, parJ_bit s K _ q hq]
      have : K + (i - K) = i := by omega
      rw [this]; simp)
    have h3 := ker_xor hp h2
    rwa [← Nat.xor_assoc, Nat.xor_self, Nat.zero_xor] at h3
theorem spX_one {s K P i : Nat} (h : i < K) : spX s K P i = 2 ^ i := by unfold spX; rw [if_pos h]
end Go.Proofs.YtidcnoejihjgjaaGreatDoor.Dc
