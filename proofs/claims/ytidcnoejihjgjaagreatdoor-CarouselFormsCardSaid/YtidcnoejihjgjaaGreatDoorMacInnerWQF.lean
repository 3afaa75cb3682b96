/- MacInner's walk. -/
import Derived.Test.YtidcnoejihjgjaaGreatDoorZRQF
import Derived.Test.YtidcnoejihjgjaaGreatDoorZAQF
namespace Go.Proofs.YtidcnoejihjgjaaGreatDoor.Sh
open Go.RowKit
def TwoZ (Z : List Value) (g1 g2 : Nat) (w wx : World) : Prop :=
  wx.heap[g1]? = some (.cells Z.toArray 5 (0, 0)) ∧ wx.heap[g2]? = some (.cells Z.toArray 5 (0, 0)) ∧ g1 ≠ g2 ∧ w.heap.size ≤ g1 ∧ w.heap.size ≤ g2 ∧ Below w.heap.size w wx
theorem two_new (Z : List Value) (w : World) : TwoZ Z w.heap.size (w.heap.size + 1) w ((w.alloc (.cells Z.toArray 5)).alloc (.cells Z.toArray 5)) :=
  ⟨heap_alloc2_old w _ _, heap_alloc2_new w _ _, by omega, Nat.le_refl _, by omega, ((Below.refl _ _).alloc (Nat.le_refl _) _).alloc (by simp) _⟩
theorem TwoZ.swap {Z : List Value} {g1 g2 : Nat} {w wx : World} (h : TwoZ Z g1 g2 w wx) : TwoZ Z g2 g1 w wx := ⟨h.2.1, h.1, h.2.2.1.symm, h.2.2.2.2.1, h.2.2.2.1, h.2.2.2.2.2⟩
theorem TwoZ.drew {Z : List Value} {g1 g2 : Nat} {w wx : World} (h : TwoZ Z g1 g2 w.drew wx) : TwoZ Z g1 g2 w wx := ⟨h.1, h.2.1, h.2.2.1, h.2.2.2.1, h.2.2.2.2.1, (Below.refl _ _).drew.trans h.2.2.2.2.2⟩
end Go.Proofs.YtidcnoejihjgjaaGreatDoor.Sh
