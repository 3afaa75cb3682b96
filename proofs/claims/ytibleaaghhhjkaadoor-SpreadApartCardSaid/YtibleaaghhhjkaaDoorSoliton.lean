/- soliton.empty, New, ideal, Weights: by contracts. -/
import Derived.Test.YtibleaaghhhjkaaDoorRoot
import Derived.Test.YtibleaaghhhjkaaDoorSolMath
import Derived.Test.YtibleaaghhhjkaaDoorOwn
import Derived.WalkSpells
import Derived.WalkLawsBesides
namespace Go.Proofs.YtibleaaghhhjkaaDoor
open Go.RowKit
open SoM
def Tab (w : World) (g n : Nat) (d m : Int) (v : Value) : Prop := w.heap[g]? = some (.cells #[.int .i64 (n : Int), .int .u32 d, .int .i32 m, .int .u32 0, v] 100 (0, 0))
theorem Tab.cells {w : World} {g n : Nat} {d m : Int} {v : Value} (h : Tab w g n d m v) : w.cell? ⟨g, 0, none⟩ = some (.int .i64 (n : Int)) ∧ w.cell? ⟨g, 1, none⟩ = some (.int .u32 d) ∧ w.cell? ⟨g, 2, none⟩ = some (.int .i32 m) ∧ w.cell? ⟨g, 3, none⟩ = some (.int .u32 0) ∧ w.cell? ⟨g, 4, none⟩ = some v := by
  refine ⟨?_, ?_, ?_, ?_, ?_⟩ <;> rw [cell_of_row w g _ _ _ (0, 0) h] <;> rfl
theorem Tab.frozen {w : World} {g n : Nat} {d m : Int} {v : Value} (h : Tab w g n d m v) (j : Nat) : w.frozen? ⟨g, j, none⟩ = false := frozen_of_row w g j _ _ h
theorem Tab.lt {w : World} {g n : Nat} {d m : Int} {v : Value} (h : Tab w g n d m v) : g < w.heap.size := (Array.getElem?_eq_some_iff.1 h).1
theorem Tab.below {w w' : World} {B g n : Nat} {d m : Int} {v : Value} (h : Tab w g n d m v) (hb : Below B w w') (hg : g < B) : Tab w' g n d m v := (hb.block g hg).trans h
theorem empty_nil (w : World) : Calls Tryd.prog 58 #[.pointer none] w fun e w' => e = .returned (.bool true) ∧ w = w' := by
  go_enter Tryd.func58, Tryd.ntmps58
  go_wp2
  go_ret
  exact ⟨rfl, rfl⟩
theorem empty_no (g n : Nat) (d m : Int) (v : Value) (w : World) (h : Tab w g n d m v) (h1 : 1 ≤ n) : Calls Tryd.prog 58 #[.pointer (some ⟨g, 0, none⟩)] w fun e w' => e = .returned (.bool false) ∧ w = w' := by
  obtain ⟨c0, _, _, _, _⟩ := h.cells
  have hn : ((n : Int) == 0) = false := by simp; omega
  clear h
  go_enter Tryd.func58, Tryd.ntmps58
  go_wp2
  go_ret
  exact ⟨rfl, rfl⟩
theorem new_out (n : Int) (w : World) (h : n < 1 ∨ 80 < n) : Calls Tryd.prog 27 #[.int .i64 n] w fun e w' => e = .returned (.pointer none) ∧ w = w' := by
  by_cases h1 : n < 1
  · go_enter Tryd.func27, Tryd.ntmps27
    go_wp2
    go_ret
    exact ⟨rfl, rfl⟩
  · have h2 : 80 < n := by omega
    go_enter Tryd.func27, Tryd.ntmps27
    go_wp2
    go_ret
    exact ⟨rfl, rfl⟩
theorem new_in (n : Nat) (w : World) (h1 : 1 ≤ n) (h2 : n ≤ 80) : Calls Tryd.prog 27 #[.int .i64 (n : Int)] w fun e w' => e = .returned (.pointer (some ⟨w.heap.size, 0, none⟩)) ∧ Hid (Tab w' w.heap.size n 0 0 (.slice none 0 0)) ∧ Hid (Below w.heap.size w w') := by
  go_enter Tryd.func27, Tryd.ntmps27
  go_wp2
  go_ret
  exact ⟨rfl, heap_alloc_new w _, (Below.refl _ _).alloc (Nat.le_refl _) _⟩
theorem ideal_any (n d : Nat) (w : World) (h1 : 1 ≤ n) (h2 : n ≤ 80) (h3 : 1 ≤ d) (h4 : d ≤ 80) : Calls Tryd.prog 92 #[.int .i64 (n : Int), .int .i64 (d : Int)] w fun e w' => e = .returned (.int .i64 (ideal n d : Nat)) ∧ w = w' := by
  by_cases hd : d = 1
  · subst hd
    have hn : ¬ (n : Int) = 0 := by omega
    go_enter Tryd.func92, Tryd.ntmps92
    go_wp2
    go_ret
    refine ⟨?_, rfl⟩
    simp [ideal]
  · obtain ⟨p, rfl⟩ : ∃ p, d = p + 1 := ⟨d - 1, by omega⟩
    obtain ⟨q, hq⟩ : ∃ q : Nat, q = (p + 1) * p := ⟨_, rfl⟩
    have hq1 : 1 ≤ q := by rw [hq]; exact Nat.mul_pos (by omega) (by omega)
    have hq2 : q ≤ 6400 := by
      have := Nat.mul_le_mul (show p + 1 ≤ 80 by omega) (show p ≤ 80 by omega)
      omega
    have hd1 : (((p : Int) + 1) == 1) = false := by simp; omega
    have hp0 : ¬ (p : Int) = 0 := by omega
    have hpp : 0 ≤ (p : Int) := by omega
    have hpl : (p : Int) ≤ 80 := by omega
    have hm : ((p : Int) + 1) * (p : Int) = (q : Int) := by rw [hq]; push_cast; rfl
    have hq0 : ¬ (q : Int) = 0 := by omega
    have HQ := Lib.hid hq
    clear hq hd
    go_enter Tryd.func92, Tryd.ntmps92
    go_wp2
    go_ret
    refine ⟨?_, rfl⟩
    unfold ideal
    rw [if_neg (by omega), Nat.add_sub_cancel, ← HQ.out]
    simp
end Go.Proofs.YtibleaaghhhjkaaDoor
