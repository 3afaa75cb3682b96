/- awake of layer 1: the sum that every program must know. -/
import Derived.Test.YtcnjhpbakommbaaCrcWalks
namespace Go.Proofs.Ytcnjhpbakommbaa
open Go.RowKit
theorem awake_sum : CrcM.sum [49, 50, 51, 52, 53, 54, 55, 56, 57] = 3421780262 := by decide +kernel
theorem awake_any (w : World) : Calls Try.prog 9 #[] w fun e w' => e = .returned (.bool true) ∧ Below w.heap.size w w' := by
  have kc := fun (w : World) (C : Array Value) (n c : Nat) => Lib.run_convert_bytes_const (P := Try.prog) w 22 5 C n c Try.underlying22 Try.underlying5
  go_enter Try.func9, Try.ntmps9
  go_wp2_with fail
  refine (sum_any _ 9 9 _ [49, 50, 51, 52, 53, 54, 55, 56, 57] _ (row_new w _ _ _) (by omega)).mono ?_
  rintro e w' ⟨rfl, rfl⟩
  rw [awake_sum]
  go_wp2
  go_ret
  exact ⟨rfl, (Below.refl _ _).alloc (Nat.le_refl _) _⟩
end Go.Proofs.Ytcnjhpbakommbaa
