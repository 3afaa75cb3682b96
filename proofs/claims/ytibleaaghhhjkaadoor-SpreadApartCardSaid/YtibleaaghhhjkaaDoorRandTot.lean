/- rand.Some of every number of places up to 256: by one contract. -/
import Derived.Test.YtibleaaghhhjkaaDoorRandSome
namespace Go.Proofs.YtibleaaghhhjkaaDoor
open Go.RowKit
open RdM
def SomeRow (g n : Nat) (x : Int) (K : Nat) (w : World) (e : Ending) (w' : World) : Prop :=
  ∃ A c, e = .returned (.slice A K c) ∧ Hid (Row w' w'.heap.size A K (iv (some_ n x K))) ∧ Hid (Src w' g (shk x K)) ∧ Hid (But w.heap.size g w w')
theorem some_tot (g n : Nat) (x k : Int) (w : World) (hs : Src w g x) (h2 : n ≤ 256) (K : Nat) (hK : kk n k = K) : Calls Tryd.prog 26 #[.pointer (some ⟨g, 0, none⟩), .int .i64 (n : Int), .int .i64 k] w (SomeRow g n x K w) := by
  by_cases h1 : 1 ≤ n
  · refine (some_any g n x k w hs h1 h2 K hK).mono ?_
    rintro e w' ⟨A, c, rfl, hown, hsr, hbt⟩
    exact ⟨A, c, rfl, Row.of_own hown, hsr, hbt⟩
  · have hn : n = 0 := by omega
    subst hn
    have hK0 : K = 0 := by rw [← hK]; unfold kk; omega
    subst hK0
    refine (some_out g 0 k w (by omega)).mono ?_
    rintro e w' ⟨rfl, rfl⟩
    exact ⟨none, 0, rfl, by show Row _ _ _ _ _; simpa [some_, iv] using Row.nil w w.heap.size none, hs, But.refl _ _ _⟩
theorem kk_small (n : Nat) (k : Int) (h : k ≤ 0) : kk n k = 0 := by unfold kk; omega
theorem kk_all (n : Nat) : kk n n = n := by unfold kk; omega
theorem kk_nat (n k : Nat) : kk n k = min n k := by unfold kk; omega
end Go.Proofs.YtibleaaghhhjkaaDoor
