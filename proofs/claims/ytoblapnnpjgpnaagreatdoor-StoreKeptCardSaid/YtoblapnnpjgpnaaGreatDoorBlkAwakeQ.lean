/- awake of layer 10. -/
import Derived.BigQuiet
import Derived.Deep.QuietTactic
import Derived.Deep.RegionHeld3
import Derived.Test.YtoblapnnpjgpnaaGreatDoorBlkJoinQ
namespace Go.Proofs.YtoblapnnpjgpnaaGreatDoor
open Go.RowKit
theorem join_at (g : Nat) (B n cap : Nat) (es : List BRow) (w : World) (hl : Rows2 w B (some ⟨g, 0, none⟩) n es) (hn : n ≤ 1000000000000000000) (hB : B ≤ w.heap.size) (hbig : ∀ r ∈ es, r.n ≤ r.c ∧ r.c ≤ 9223372036854775807) (L : Int) :
    Calls Tryz.prog 54 #[.slice (some ⟨g, 0, none⟩) n cap, .int .i64 L] w (FreshBytes w.heap.size (joinF es L) w) := by
  by_cases h : L < 1 ∨ 512 < L
  · rw [show joinF es L = [] by unfold joinF; rw [if_pos h]]
    exact join_out n cap _ L w h
  · obtain ⟨k, rfl⟩ : ∃ k : Nat, L = k := ⟨L.toNat, by omega⟩
    exact join_in B n cap _ es k w hl (by omega) (by omega) hn hB hbig
theorem split_at (g B n cap s c : Nat) (A : Option Addr) (l : List UInt8) (w : World) (hg : w.heap.size = g) (hl : Row w B A n (bv l)) (hnc : n ≤ cap) (hcap : cap ≤ 9223372036854775807) (hcN : BlkM.count n s = c) (hc0 : 0 < c) (hB : B ≤ w.heap.size) :
    Calls Tryz.prog 75 #[.slice A n cap, .int .i64 (s : Int)] w (fun e w' => e = .returned (.slice (some ⟨g, 0, none⟩) c c) ∧ SplitW l s c g c w w') := by
  subst hg
  exact split_ok B n cap s c A l w hl hnc hcap hcN hc0 hB
end Go.Proofs.YtoblapnnpjgpnaaGreatDoor
