/- What a decoder's matrix says of an image: plain mathematics. -/
import Derived.Test.YtoblapnnpjgpnaaGreatDoorDcIQ
import Derived.Test.YtoblapnnpjgpnaaGreatDoorZMQ
import Derived.Test.YtoblapnnpjgpnaaGreatDoorZLQ
namespace Go.Proofs.YtoblapnnpjgpnaaGreatDoor.Dc
open Go.RowKit
open VecM RdM Vc Sp Pc El Cd
theorem parJ_bit (s K j i : Nat) (hi : K ≤ i) : (parJ s K j).testBit i = decide (K + j = i) := by
  unfold parJ
  rw [parX_bit, if_neg (by omega)]
theorem parJ_lt {s K P j : Nat} (hj : j < P) : parJ s K j < 2 ^ (K + P) := by
  apply Nat.lt_pow_two_of_testBit
  intro i hi
  rw [parJ_bit s K j i (by omega)]
  simp; omega
/-- the rows that a decoder has at first -/
def parP (s K P : Nat) (X : Nat) : Prop := ∃ j, j < P ∧ X = parJ s K j
theorem matR_got {s K P Z : Nat} (hn : K + P ≤ 80) : ∀ k, k ≤ P → Got (K + P) Z (matR s K P Z k) (parP s K k)
  | 0, _ => (Got.start (K + P) Z).congr fun X => ⟨fun h => h.elim, fun ⟨j, hj, _⟩ => absurd hj (Nat.not_lt_zero j)⟩
  | k + 1, hk => by
    refine ((matR_got hn k (by omega)).add (by omega) (parJ_lt (by omega)) (l := List.replicate Z 0) (by simp)).congr fun X => ⟨?_, ?_⟩
    · rintro (⟨j, hj, e⟩ | e)
      · exact ⟨j, by omega, e⟩
      · exact ⟨k, by omega, e⟩
    · rintro ⟨j, hj, e⟩
      by_cases h : j < k
      · exact .inl ⟨j, h, e⟩
      · exact .inr (by rw [e]; congr 1; omega)
theorem matR_rank {s K P Z : Nat} (hn : K + P ≤ 80) : ∀ k, k ≤ P → rankM (matR s K P Z k) = k
  | 0, _ => by show rankM (List.replicate (K + P) none) = 0; simp [rankM]
  | k + 1, hk => by
    have hg := matR_got (s := s) (Z := Z) hn k (by omega)
    have hnew : (addMx (K + P) (matR s K P Z k) (parJ s K k) (List.replicate Z 0)).2 = true := by
      rw [hg.says]
      intro hs
      have := span_bit (j := K + k) (fun X hX => by
        obtain ⟨j, hj, e⟩ := hX
        rw [e, parJ_bit s K j _ (by omega)]
        simp; omega) hs
      rw [parJ_bit s K k _ (by omega)] at this
      simp at this
    have hr := rank_add hg.inv (by omega) (parJ_lt (s := s) (K := K) (P := P) (j := k) (by omega)) (l := List.replicate Z 0) (by simp)
    show rankM (addMx (K + P) (matR s K P Z k) (parJ s K k) (List.replicate Z 0)).1 = k + 1
    rw [hr, hnew, matR_rank hn k (by omega)]
    rfl
end Go.Proofs.YtoblapnnpjgpnaaGreatDoor.Dc
