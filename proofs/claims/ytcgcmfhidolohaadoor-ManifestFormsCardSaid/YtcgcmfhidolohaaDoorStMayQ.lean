/- state.empty, state.May: by contracts. -/
import Derived.Test.YtcgcmfhidolohaaDoorStSameQ
namespace Go.Proofs.YtcgcmfhidolohaaDoor
open Go.RowKit
def emptyB (v : Nat) (l : Int) (h : List UInt8) : Bool := decide (v = 0 ∧ l = 0 ∧ h = [])
def mayB2 (act trial : Int) (v0 : Nat) (l0 : Int) (h0 : List UInt8) (v1 : Nat) (l1 : Int) (h1 : List UInt8) (on : Bool) (s v : Nat) (l z p : Int) (h : List UInt8) : Bool :=
  decide (act = 0 ∨ act = 1) && (decide (0 ≤ trial) && decide (trial ≤ 3)) && (if on then manB l z p h.length else decide (s = 0 ∧ v = 0 ∧ l = 0 ∧ z = 0 ∧ p = 0 ∧ h = [])) &&
    (if act = 0 then filledB l0 h0.length && (filledB l1 h1.length || (decide (trial = 0) && emptyB v1 l1 h1)) else filledB l1 h1.length && (filledB l0 h0.length || (decide (trial = 0) && emptyB v0 l0 h0)))
theorem st3 {w : World} {g : Nat} {t : TypeId} {z0 z1 z2 : Value} (h : w.heap[g]? = some (.cells #[z0, z1, z2] t (0, 0))) (v0 v1 v2 : Value) :
    (((w.setCell ⟨g, 0, none⟩ v0).setCell ⟨g, 1, none⟩ v1).setCell ⟨g, 2, none⟩ v2).heap[g]? = some (.cells #[v0, v1, v2] t (0, 0)) := by
  have h0 : (w.setCell ⟨g, 0, none⟩ v0).heap[g]? = some (.cells #[v0, z1, z2] t (0, 0)) := heap_setCell_same _ g 0 _ t v0 h
  have h1 : ((w.setCell ⟨g, 0, none⟩ v0).setCell ⟨g, 1, none⟩ v1).heap[g]? = some (.cells #[v0, v1, z2] t (0, 0)) := heap_setCell_same _ g 1 _ t v1 h0
  exact heap_setCell_same _ g 2 _ t v2 h1
theorem st3o {w : World} {g q : Nat} {o : Option Obj} (h : w.heap[q]? = o) (hne : q ≠ g) (v0 v1 v2 : Value) :
    (((w.setCell ⟨g, 0, none⟩ v0).setCell ⟨g, 1, none⟩ v1).setCell ⟨g, 2, none⟩ v2).heap[q]? = o := by
  rw [heap_setCell_other _ _ _ _ hne, heap_setCell_other _ _ _ _ hne, heap_setCell_other _ _ _ _ hne]
  exact h
theorem bx3 {w : World} {g : Nat} {t : TypeId} {x y z : Value} (h : w.heap[g]? = some (.cells #[x, y, z] t (0, 0))) : w.cell? ⟨g, 0, none⟩ = some x ∧ w.cell? ⟨g, 1, none⟩ = some y ∧ w.cell? ⟨g, 2, none⟩ = some z := by
  refine ⟨?_, ?_, ?_⟩ <;> rw [cell_of_row w g _ _ t (0, 0) h] <;> rfl
theorem below_set3 {B g : Nat} {w w' : World} (h : Below B w w') (hg : B ≤ g) (v0 v1 v2 : Value) : Below B w (((w'.setCell ⟨g, 0, none⟩ v0).setCell ⟨g, 1, none⟩ v1).setCell ⟨g, 2, none⟩ v2) :=
  ((h.setCell hg _).setCell hg _).setCell hg _
theorem bx17 {w : World} {g : Nat} {t : TypeId} {a0 a1 a2 a3 a4 a5 a6 a7 a8 a9 a10 a11 a12 a13 a14 a15 a16 : Value} (h : w.heap[g]? = some (.cells #[a0, a1, a2, a3, a4, a5, a6, a7, a8, a9, a10, a11, a12, a13, a14, a15, a16] t (0, 0))) :
    w.cell? ⟨g, 0, none⟩ = some a0 ∧ w.cell? ⟨g, 1, none⟩ = some a1 ∧ w.cell? ⟨g, 4, none⟩ = some a4 ∧ w.cell? ⟨g, 5, none⟩ = some a5 ∧ w.cell? ⟨g, 6, none⟩ = some a6 ∧ w.cell? ⟨g, 7, none⟩ = some a7 ∧ w.cell? ⟨g, 8, none⟩ = some a8 ∧ w.cell? ⟨g, 9, none⟩ = some a9 ∧ w.cell? ⟨g, 10, none⟩ = some a10 := by
  refine ⟨?_, ?_, ?_, ?_, ?_, ?_, ?_, ?_, ?_⟩ <;> rw [cell_of_row w g _ _ t (0, 0) h] <;> rfl
end Go.Proofs.YtcgcmfhidolohaaDoor
