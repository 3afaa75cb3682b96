/- bytes.Equal, manifest.May, Same; state's filled, sameSlot, empty: by contracts. -/
import Derived.Test.YtgfdpondnkcogaaDoorSpMay
namespace Go.Proofs.YtgfdpondnkcogaaDoor
open Go.RowKit
theorem equal_any (B n cap n' cap' : Nat) (A A' : Option Addr) (l l' : List UInt8) (w : World) (hl : Row w B A n (bv l)) (hl' : Row w B A' n' (bv l')) :
    Calls Tryd.prog 40 #[.slice A n cap, .slice A' n' cap'] w (fun e w' => e = .returned (.bool (l == l')) ∧ w' = w) := by
  have k1 : ∀ W, Below B w W → (convert 28 9 (.slice A n cap)).run Tryd.prog W = .ok (.string ⟨l.toArray⟩) W := fun W hW => run_string_row (hl.below hW) _ _ _ 5 Tryd.underlying28 Tryd.underlying5 Tryd.underlying9
  have k2 : ∀ W, Below B w W → (convert 28 9 (.slice A' n' cap')).run Tryd.prog W = .ok (.string ⟨l'.toArray⟩) W := fun W hW => run_string_row (hl'.below hW) _ _ _ 5 Tryd.underlying28 Tryd.underlying5 Tryd.underlying9
  have k1' := k1 w (Below.refl _ _)
  have k2' := k2 w (Below.refl _ _)
  go_enter Tryd.func40, Tryd.ntmps40
  go_wp2_with fail
  go_ret
  exact ⟨rfl, rfl⟩
def manB (l z p : Int) (n : Nat) : Bool := ofB l z p && decide (n = 32)
def filledB (l : Int) (n : Nat) : Bool := decide (n = 32) && (decide (1 ≤ l) && decide (l ≤ 512))
end Go.Proofs.YtgfdpondnkcogaaDoor
