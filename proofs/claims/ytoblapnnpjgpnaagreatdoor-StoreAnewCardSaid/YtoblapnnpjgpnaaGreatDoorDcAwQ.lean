/- layer 12's awake: by contract. -/
import Derived.Test.YtoblapnnpjgpnaaGreatDoorDcSepQ
namespace Go.Proofs.YtoblapnnpjgpnaaGreatDoor.Dc
open Go.RowKit
open VecM RdM Vc Sp Pc El Cd
theorem cnt32 : BlkM.count 3 2 = 2 := by decide +kernel
end Go.Proofs.YtoblapnnpjgpnaaGreatDoor.Dc
