/- Lists of numbers, rows of parity as an object. -/
import Derived.Test.YtmncpgfdpcckpaaGreatDoorDcMathQN
import Derived.Test.YtmncpgfdpcckpaaGreatDoorZMQN
import Derived.Test.YtmncpgfdpcckpaaGreatDoorZCQN
import Derived.Test.YtmncpgfdpcckpaaGreatDoorZQQN
import Derived.Test.YtmncpgfdpcckpaaGreatDoorZDQN
namespace Go.Proofs.YtmncpgfdpcckpaaGreatDoor.Dc
open Go.RowKit
open VecM RdM Vc Sp Pc El Cd
def first (us : List Nat) (m : Nat) : List Nat := (List.range m).map fun i => us.getD i 0
end Go.Proofs.YtmncpgfdpcckpaaGreatDoor.Dc
