/- CarouselEnough's walk. -/
import Derived.Test.YtidcnoejihjgjaaGreatDoorCarAwQF
namespace Go.Proofs.YtidcnoejihjgjaaGreatDoor.Car
open Go.RowKit
open VecM RdM Vc Sp Pc El Cd Dc
theorem look_mix {B : Dc.Obj} {w0 : World} {g s v K gc nk ck ch n : Nat} {L : Int} {Z P : Nat} {Ak Ah U : Option Addr} {key hash : List UInt8} {us : List Nat} (hB : ∀ W F, B W F → ∃ G, carO g (carC Ak nk ck s v L (Z : Int) (P : Int) Ah ch K gc) Ak key Ah hash W G) (hr : Row w0 w0.heap.size U n (Dc.uv us)) : Look B w0 g s K P Z gc n U us := by
  intro W F h hb
  obtain ⟨G, hg⟩ := hB W F h
  exact look_arg hr W G hg hb
theorem first_lt {us : List Nat} {m : Nat} (hu : ∀ i, i < m → us.getD i 0 < 4294967296) (i : Nat) : (first us m).getD i 0 < 4294967296 := by
  by_cases h : i < m
  · have e : (first us m).getD i 0 = us.getD i 0 := by simp [first, List.getD, h]
    rw [e]; exact hu i h
  · rw [List.getD_eq_getElem?_getD, List.getElem?_eq_none (by rw [first_len]; omega)]
    show 0 < _
    omega
end Go.Proofs.YtidcnoejihjgjaaGreatDoor.Car
