/- awake of layer 10. -/
import Derived.BigQuiet
import Derived.Deep.QuietTactic
import Derived.Deep.RegionHeld3
import Derived.Test.YtoblapnnpjgpnaaGreatDoorBlkSplitQ
namespace Go.Proofs.YtoblapnnpjgpnaaGreatDoor
open Go.RowKit
theorem split_at (g B n cap s c : Nat) (A : Option Addr) (l : List UInt8) (w : World) (hg : w.heap.size = g) (hl : Row w B A n (bv l)) (hnc : n ≤ cap) (hcap : cap ≤ 9223372036854775807) (hcN : BlkM.count n s = c) (hc0 : 0 < c) (hB : B ≤ w.heap.size) :
    Calls Tryz.prog 75 #[.slice A n cap, .int .i64 (s : Int)] w (fun e w' => e = .returned (.slice (some ⟨g, 0, none⟩) c c) ∧ SplitW l s c g c w w') := by
  subst hg
  exact split_ok B n cap s c A l w hl hnc hcap hcN hc0 hB
end Go.Proofs.YtoblapnnpjgpnaaGreatDoor
