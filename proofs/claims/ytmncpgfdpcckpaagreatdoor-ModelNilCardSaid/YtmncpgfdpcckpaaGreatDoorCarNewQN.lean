/- carousel's New: by contract. -/
import Derived.Test.YtmncpgfdpcckpaaGreatDoorZPQN
import Derived.Test.YtmncpgfdpcckpaaGreatDoorZOQN
import Derived.Test.YtmncpgfdpcckpaaGreatDoorZSQN
namespace Go.Proofs.YtmncpgfdpcckpaaGreatDoor.Car
open Go.RowKit
open VecM RdM Vc Sp Pc El Cd Dc
theorem rowP_own {w : World} {base n c : Nat} {A : Option Addr} {xs : List Value} (h : w.ownsRow base 5 1 (.slice A n c) n xs) : RowP w (fun b => base ≤ b ∧ b < w.heap.size) A n xs := by
 refine ⟨(Row.of_own h).1, fun hn => ?_⟩
 obtain ⟨b, o, e, hb, hc⟩ := (Row.of_own h).2 hn
 exact ⟨b, o, e, hb, ⟨(h.lt b (by rw [e]; rfl)).1, hb⟩, hc⟩
end Go.Proofs.YtmncpgfdpcckpaaGreatDoor.Car
