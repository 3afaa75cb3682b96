/- awake of layer 10. -/
import Derived.Test.YtibleaaghhhjkaaDoorBlkJoin
import Derived.BigQuiet
import Derived.Deep.QuietTactic
import Derived.Deep.RegionHeld3
namespace Go.Proofs.YtibleaaghhhjkaaDoor
open Go.RowKit
theorem splitRows_big (l : List UInt8) (s c g : Nat) (hs : s ≤ 1000) : ∀ r ∈ splitRows l s c g, r.n ≤ r.c ∧ r.c ≤ 9223372036854775807 := by
  intro r hr
  simp only [splitRows, List.mem_map, List.mem_range] at hr
  obtain ⟨j, hj, rfl⟩ := hr
  exact ⟨Nat.le_refl _, by show s ≤ _; omega⟩
theorem awake10_l1 : BlkM.piece [1, 2, 3] 2 1 = [3, 0] := by decide +kernel
theorem awake10_j (g : Nat) : joinF (splitRows [1, 2, 3] 2 2 g) 3 = [1, 2, 3] := by
  unfold joinF
  rw [splitRows_flat _ _ _ _ (by simp)]
  decide
end Go.Proofs.YtibleaaghhhjkaaDoor
