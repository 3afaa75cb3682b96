/- spread.May, packet.Fits: by contracts. -/
import Derived.Test.YtiogkokcoedonaaPacketSame
import Derived.Deep.RegionWith
import Derived.Deep.QuietTactic
namespace Go.Proofs.Ytiogkokcoedonaa
open Go.RowKit
theorem within_any (x a b : Int) (w : World) : Calls Try.prog 38 #[.int .i64 x, .int .i64 a, .int .i64 b] w fun e w' => e = .returned (.bool (decide (a ≤ x) && decide (x ≤ b))) ∧ w = w' := by
  go_enter Try.func38, Try.ntmps38
  go_wp2
  all_goals (go_ret; exact ⟨by simp; intros; omega, rfl⟩)
def mayB (K P Z : Int) : Bool := (decide (1 ≤ K) && decide (K ≤ 64)) && (decide (0 ≤ P) && decide (P ≤ 16)) && (decide (1 ≤ Z) && decide (Z ≤ 16))
set_option maxHeartbeats 400000 in
theorem may_any (s K P Z : Int) (w : World) : Calls Try.prog 36 #[.agg #[.int .u32 s, .int .i64 K, .int .i64 P, .int .i64 Z]] w fun e w' => e = .returned (.bool (mayB K P Z)) ∧ Below w.heap.size w w' := by
  go_enter Try.func36, Try.ntmps36
  go_wp2_with (go_at_call 38; refine (within_any _ _ _ _).mono ?_; rintro e w' ⟨rfl, rfl⟩)
  all_goals (go_ret; exact ⟨by simp [mayB, *], (Below.refl _ _).alloc (Nat.le_refl _) _⟩)
theorem boxB (w : World) (o o' : Obj) : ((w.alloc o).alloc o').heap[w.heap.size + 1]? = some o' := by
  have := heap_alloc_new (w.alloc o) o'
  simpa using this
theorem boxA (w : World) (o o' : Obj) : ((w.alloc o).alloc o').heap[w.heap.size]? = some o := by
  have h := ((Below.refl (w.heap.size + 1) (w.alloc o)).alloc (by simp) o').block w.heap.size (by omega)
  exact h.trans (heap_alloc_new w o)
theorem box4 {w : World} {g : Nat} {x y z u : Value} {t : TypeId} (h : w.heap[g]? = some (.cells #[x, y, z, u] t (0, 0))) : w.cell? ⟨g, 0, none⟩ = some x ∧ w.cell? ⟨g, 1, none⟩ = some y ∧ w.cell? ⟨g, 2, none⟩ = some z ∧ w.cell? ⟨g, 3, none⟩ = some u := by
  refine ⟨?_, ?_, ?_, ?_⟩ <;> rw [cell_of_row w g _ _ t (0, 0) h] <;> rfl
def fitsC (s s' : Nat) (n : Nat) (K P Z : Int) : Int := if mayB K P Z = false then 1 else if s ≠ s' then 7 else if (n : Int) ≠ Z then 3 else 0
set_option maxHeartbeats 400000 in
theorem fits_any (s i n c s' : Nat) (A : Option Addr) (K P Z : Int) (w : World) :
    Calls Try.prog 27 #[.agg #[.int .u32 (s : Int), .int .u32 (i : Int), .slice A n c], .agg #[.int .u32 (s' : Int), .int .i64 K, .int .i64 P, .int .i64 Z]] w (fun e w' => ∃ x, e = .returned (.int .i64 x) ∧ Hid (x = fitsC s s' n K P Z) ∧ Below w.heap.size w w') := by
  have hb0 : Below w.heap.size w ((w.alloc (.cells #[.int .u32 (s : Int), .int .u32 (i : Int), .slice A n c] 39)).alloc (.cells #[.int .u32 (s' : Int), .int .i64 K, .int .i64 P, .int .i64 Z] 41)) := ((Below.refl _ _).alloc (Nat.le_refl _) _).alloc (by simp) _
  have hx1 := boxA w (.cells #[.int .u32 (s : Int), .int .u32 (i : Int), .slice A n c] 39) (.cells #[.int .u32 (s' : Int), .int .i64 K, .int .i64 P, .int .i64 Z] 41)
  have hx2 := boxB w (.cells #[.int .u32 (s : Int), .int .u32 (i : Int), .slice A n c] 39) (.cells #[.int .u32 (s' : Int), .int .i64 K, .int .i64 P, .int .i64 Z] 41)
  have hz0 : ((w.alloc (.cells #[.int .u32 (s : Int), .int .u32 (i : Int), .slice A n c] 39)).alloc (.cells #[.int .u32 (s' : Int), .int .i64 K, .int .i64 P, .int .i64 Z] 41)).heap.size = w.heap.size + 2 := by simp
  cases hm : mayB K P Z with
  | false =>
    have HM := Lib.hid hm
    go_enter Try.func27, Try.ntmps27
    go_wp2_with fail
    refine (may_any _ K P Z _).mono ?_
    rintro e w1 ⟨rfl, hb1⟩
    go_wp2
    go_ret
    exact ⟨_, rfl, (by show (1 : Int) = _; unfold fitsC; rw [if_pos HM.out]), hb0.trans (hb1.mono (by omega))⟩
  | true =>
    have HM := Lib.hid hm
    by_cases h1 : s = s'
    · subst h1
      by_cases h2 : (n : Int) = Z
      · subst h2
        go_enter Try.func27, Try.ntmps27
        go_wp2_with fail
        refine (may_any _ K P n _).mono ?_
        rintro e w1 ⟨rfl, hb1⟩
        obtain ⟨y0, y1, y2⟩ := box3 ((hb1.block w.heap.size (by omega)).trans hx1)
        obtain ⟨u0, u1, u2, u3⟩ := box4 ((hb1.block (w.heap.size + 1) (by omega)).trans hx2)
        go_wp2
        go_ret
        exact ⟨_, rfl, (by show (0 : Int) = _; unfold fitsC; rw [if_neg (by rw [HM.out]; decide), if_neg (by simp), if_neg (by simp)]), hb0.trans (hb1.mono (by omega))⟩
      · have HN := Lib.hid h2
        have h2' : ((n : Int) == Z) = false := by simp [h2]
        go_enter Try.func27, Try.ntmps27
        go_wp2_with fail
        refine (may_any _ K P Z _).mono ?_
        rintro e w1 ⟨rfl, hb1⟩
        obtain ⟨y0, y1, y2⟩ := box3 ((hb1.block w.heap.size (by omega)).trans hx1)
        obtain ⟨u0, u1, u2, u3⟩ := box4 ((hb1.block (w.heap.size + 1) (by omega)).trans hx2)
        go_wp2
        go_ret
        exact ⟨_, rfl, (by show (3 : Int) = _; unfold fitsC; rw [if_neg (by rw [HM.out]; decide), if_neg (by simp), if_pos HN.out]), hb0.trans (hb1.mono (by omega))⟩
    · have h1' : ¬ (s : Int) = s' := by omega
      have HN := Lib.hid h1
      clear h1
      go_enter Try.func27, Try.ntmps27
      go_wp2_with fail
      refine (may_any _ K P Z _).mono ?_
      rintro e w1 ⟨rfl, hb1⟩
      obtain ⟨y0, y1, y2⟩ := box3 ((hb1.block w.heap.size (by omega)).trans hx1)
      obtain ⟨u0, u1, u2, u3⟩ := box4 ((hb1.block (w.heap.size + 1) (by omega)).trans hx2)
      go_wp2
      go_ret
      exact ⟨_, rfl, (by show (7 : Int) = _; unfold fitsC; rw [if_neg (by rw [HM.out]; decide), if_pos HN.out]), hb0.trans (hb1.mono (by omega))⟩
end Go.Proofs.Ytiogkokcoedonaa
