/- spread.May, spread.Pieces: by contract. -/
import Derived.Test.YtibleaaghhhjkaaDoorOwn
import Derived.Test.YtibleaaghhhjkaaDoorRows
import Derived.BigQuiet
import Derived.Deep.QuietTactic
import Derived.Deep.RegionWith
import Derived.Deep.DeepCutAuto
import Derived.WalkSpells
import Derived.WalkLawsBesides
namespace Go.Proofs.YtibleaaghhhjkaaDoor.Sp
open Go.RowKit
theorem within_any (x a b : Int) (w : World) : Calls Tryd.prog 51 #[.int .i64 x, .int .i64 a, .int .i64 b] w fun e w' => e = .returned (.bool (decide (a ≤ x) && decide (x ≤ b))) ∧ w = w' := by
  go_enter Tryd.func51, Tryd.ntmps51
  go_wp2
  all_goals (go_ret; exact ⟨by simp; intros; omega, rfl⟩)
def mayB (K P Z : Int) : Bool := (decide (1 ≤ K) && decide (K ≤ 64)) && (decide (0 ≤ P) && decide (P ≤ 16)) && (decide (1 ≤ Z) && decide (Z ≤ 16))
/-- parameters as a value -/
def parV (s : Nat) (K P Z : Int) : Value := .agg #[.int .u32 (s : Int), .int .i64 K, .int .i64 P, .int .i64 Z]
set_option maxRecDepth 100000 in
set_option maxHeartbeats 400000 in
theorem may_any (s : Nat) (K P Z : Int) (w : World) : Calls Tryd.prog 22 #[parV s K P Z] w fun e w' => e = .returned (.bool (mayB K P Z)) ∧ Hid (Below w.heap.size w w') := by
  unfold parV
  go_enter Tryd.func22, Tryd.ntmps22
  go_wp2_with (go_at_call 51; refine (within_any _ _ _ _).mono ?_; rintro e w' ⟨rfl, rfl⟩)
  all_goals (go_ret; exact ⟨by simp [mayB, *], (Below.refl _ _).alloc (Nat.le_refl _) _⟩)
theorem mayB_iff (K P Z : Int) : mayB K P Z = true ↔ (1 ≤ K ∧ K ≤ 64) ∧ (0 ≤ P ∧ P ≤ 16) ∧ (1 ≤ Z ∧ Z ≤ 16) := by
  unfold mayB; simp [and_assoc]
/-- a box of parameters -/
theorem box4 {w : World} {g : Nat} {x y z u : Value} {t : TypeId} (h : w.heap[g]? = some (.cells #[x, y, z, u] t (0, 0))) : w.cell? ⟨g, 0, none⟩ = some x ∧ w.cell? ⟨g, 1, none⟩ = some y ∧ w.cell? ⟨g, 2, none⟩ = some z ∧ w.cell? ⟨g, 3, none⟩ = some u := by
  refine ⟨?_, ?_, ?_, ?_⟩ <;> rw [cell_of_row w g _ _ t (0, 0) h] <;> rfl
set_option maxRecDepth 100000 in
set_option maxHeartbeats 800000 in
theorem pieces_any (s : Nat) (K P Z : Int) (w : World) (hk : -9223372036854775808 ≤ K ∧ K ≤ 9223372036854775807) (hp : -9223372036854775808 ≤ P ∧ P ≤ 9223372036854775807) : Calls Tryd.prog 23 #[parV s K P Z] w fun e w' => e = .returned (.int .i64 (if mayB K P Z then K + P else 0)) ∧ Hid (Below w.heap.size w w') := by
  have hx := heap_alloc_new w (.cells #[.int .u32 (s : Int), .int .i64 K, .int .i64 P, .int .i64 Z] 24)
  have hb0 : Below w.heap.size w (w.alloc (.cells #[.int .u32 (s : Int), .int .i64 K, .int .i64 P, .int .i64 Z] 24)) := (Below.refl _ _).alloc (Nat.le_refl _) _
  have hz : (w.alloc (.cells #[.int .u32 (s : Int), .int .i64 K, .int .i64 P, .int .i64 Z] 24)).heap.size = w.heap.size + 1 := by simp
  have HM := Lib.hid (fun W => may_any s K P Z W)
  have HI := Lib.hid (mayB_iff K P Z)
  have HX := Lib.hid hx
  have HB0 := Lib.hid hb0
  have HZ := Lib.hid hz
  clear hx hb0 hz
  unfold parV at HM ⊢
  cases hm : mayB K P Z with
  | true =>
    obtain ⟨⟨k1, k2⟩, ⟨p1, p2⟩, _⟩ := HI.out.1 hm
    rw [hm] at HM
    clear hm HI hk hp
    go_enter Tryd.func23, Tryd.ntmps23
    go_wp2_with fail
    refine (HM.out _).mono ?_
    rintro e w1 ⟨rfl, hb1⟩
    obtain ⟨c0, c1, c2, c3⟩ := box4 ((hb1.out.block w.heap.size (by have := HZ.out; omega)).trans HX.out)
    have HE := Lib.hid (HB0.out.trans (hb1.out.mono HB0.out.size))
    clear hb1
    go_wp2_with fail
    go_ret
    exact ⟨rfl, HE⟩
  | false =>
    rw [hm] at HM
    clear hm HI hk hp
    go_enter Tryd.func23, Tryd.ntmps23
    go_wp2_with fail
    refine (HM.out _).mono ?_
    rintro e w1 ⟨rfl, hb1⟩
    have HE := Lib.hid (HB0.out.trans (hb1.out.mono HB0.out.size))
    go_wp2_with fail
    go_ret
    exact ⟨rfl, HE⟩
end Go.Proofs.YtibleaaghhhjkaaDoor.Sp
