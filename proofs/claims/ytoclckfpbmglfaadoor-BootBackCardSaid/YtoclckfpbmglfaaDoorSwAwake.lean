/- downpourlaw22.awake: by contract. -/
import Derived.Test.YtoclckfpbmglfaaDoorFirst
import Derived.Test.YtoclckfpbmglfaaDoorAdmitH
import Derived.Test.YtoclckfpbmglfaaDoorAdmitB
namespace Go.Proofs.YtoclckfpbmglfaaDoor
open Go.RowKit
def AwOk (w : World) (e : Ending) (w' : World) : Prop := e = .returned (.bool true) ∧ Below w.heap.size w w'
theorem aw_may : mayB2 0 0 1 3 n32 0 0 [] false 0 0 0 0 0 [] = true := by decide
theorem aw_man : manB 3 2 0 32 = true := by decide
theorem aw_new : newB (mayB2 0 0 1 3 n32 0 0 [] false 0 0 0 0 0 []) 0 0 1 0 false 0 2 = true := by decide
theorem aw_may2 : mayB2 0 0 1 3 n32 0 0 [] true 1 2 3 2 0 n32 = true := by decide
theorem aw_same : decide ((1 : Nat) = 1 ∧ (2 : Nat) = 2 ∧ (3 : Int) = 3 ∧ (2 : Int) = 2 ∧ (0 : Int) = 0 ∧ n32 = n32) = true := by decide
theorem aw_same1 : decide ((1 : Nat) = 1 ∧ (2 : Nat) = 1 ∧ (3 : Int) = 3 ∧ (2 : Int) = 2 ∧ (0 : Int) = 0 ∧ n32 = n32) = false := by decide
theorem aw_old : newB (mayB2 0 0 1 3 n32 0 0 [] true 1 2 3 2 0 n32) 0 0 1 0 true 2 1 = false := by decide
theorem bx53 {w : World} {g : Nat} {t : TypeId} {a0 a1 a2 a3 a4 a5 a6 a7 a8 a9 a10 a11 a12 a13 a14 a15 a16 : Value} (h : w.heap[g]? = some (.cells #[a0, a1, a2, a3, a4, a5, a6, a7, a8, a9, a10, a11, a12, a13, a14, a15, a16] t (0, 0))) : w.cell? ⟨g, 10, none⟩ = some a10 ∧ w.cell? ⟨g, 3, none⟩ = some a3 := by
  refine ⟨?_, ?_⟩ <;> rw [cell_of_row w g _ _ t (0, 0) h] <;> rfl
end Go.Proofs.YtoclckfpbmglfaaDoor
