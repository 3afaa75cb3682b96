/- layer 12's awake: by contract. -/
import Derived.Test.YtoblapnnpjgpnaaGreatDoorDcSepQ
namespace Go.Proofs.YtoblapnnpjgpnaaGreatDoor.Dc
open Go.RowKit
open VecM RdM Vc Sp Pc El Cd
theorem aw12_1 : (addMx (2 + 1) (matR 1 2 1 2 1) (spX 1 2 1 1) [3, 0]).2 = true := by decide +kernel
theorem aw12_2 : (addMx (2 + 1) (addMx (2 + 1) (matR 1 2 1 2 1) (spX 1 2 1 1) [3, 0]).1 (spX 1 2 1 0) [1, 2]).2 = true := by decide +kernel
theorem aw12_3 : rankM (addMx (2 + 1) (addMx (2 + 1) (matR 1 2 1 2 1) (spX 1 2 1 1) [3, 0]).1 (spX 1 2 1 0) [1, 2]).1 = 2 + 1 := by decide +kernel
theorem aw12_4 : joinLs ((solM (addMx (2 + 1) (addMx (2 + 1) (matR 1 2 1 2 1) (spX 1 2 1 1) [3, 0]).1 (spX 1 2 1 0) [1, 2]).1).take 2) 3 = [1, 2, 3] := by decide +kernel
theorem cnt32 : BlkM.count 3 2 = 2 := by decide +kernel
theorem fr_below {w0 w w' : World} {F : Nat → Prop} (hb : Below w0.heap.size w0 w) (hf : Fr w w' F) (hF : ∀ b, F b → w0.heap.size ≤ b) : Below w0.heap.size w0 w' := hb.trans (hf.below hF hb.size)
end Go.Proofs.YtoblapnnpjgpnaaGreatDoor.Dc
