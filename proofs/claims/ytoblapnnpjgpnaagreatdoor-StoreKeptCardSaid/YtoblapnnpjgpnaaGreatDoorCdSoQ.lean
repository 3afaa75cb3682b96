/- layer 11's sound: by contract. -/
import Derived.Test.YtoblapnnpjgpnaaGreatDoorZNQ
namespace Go.Proofs.YtoblapnnpjgpnaaGreatDoor.Cd
open Go.RowKit
open VecM RdM Vc Sp Pc
theorem size_facts (N zz K : Nat) (h1 : 1 ≤ N) (h2 : N ≤ 301) (hz : 1 ≤ zz ∧ zz ≤ 16) (hN : N ≤ 64 * zz) (hK : (N + zz - 1) / zz = K) : BlkM.count (N : Int) (zz : Int) = K ∧ 1 ≤ K ∧ K ≤ 64 := by
  have hq : ((N : Int) + (zz : Int) - 1) / (zz : Int) = (K : Int) := by
    rw [← hK]
    have : ((N : Int) + (zz : Int) - 1) = ((N + zz - 1 : Nat) : Int) := by omega
    rw [this]; rfl
  have hk1 : 1 ≤ K := by
    rw [← hK]
    exact Nat.div_pos (by omega) (by omega)
  have hk2 : K ≤ 64 := by
    rw [← hK]
    have : (N + zz - 1) / zz < 65 := (Nat.div_lt_iff_lt_mul (by omega)).2 (by omega)
    omega
  refine ⟨?_, hk1, hk2⟩
  unfold BlkM.count
  rw [if_neg (by omega), hq, if_neg (by omega)]
  rfl
end Go.Proofs.YtoblapnnpjgpnaaGreatDoor.Cd
