/- The reference's May, Fits: by contracts. -/
import Derived.Test.YtiogkokcoedonaaFits
namespace Go.Proofs.Ytiogkokcoedonaa
open Go.RowKit
set_option maxHeartbeats 800000 in
theorem r7may_any (s K P Z : Int) (w : World) : Calls Try.prog 37 #[.agg #[.int .u32 s, .int .i64 K, .int .i64 P, .int .i64 Z]] w fun e w' => e = .returned (.bool (mayB K P Z)) ∧ Below w.heap.size w w' := by
  go_enter Try.func37, Try.ntmps37
  go_wp2
  all_goals (go_ret; exact ⟨by simp [mayB, *]; try omega, (Below.refl _ _).alloc (Nat.le_refl _) _⟩)
set_option maxHeartbeats 400000 in
theorem r7fits_any (s i n c s' : Nat) (A : Option Addr) (K P Z : Int) (w : World) :
    Calls Try.prog 28 #[.agg #[.int .u32 (s : Int), .int .u32 (i : Int), .slice A n c], .agg #[.int .u32 (s' : Int), .int .i64 K, .int .i64 P, .int .i64 Z]] w (fun e w' => ∃ x, e = .returned (.int .i64 x) ∧ Hid (x = fitsC s s' n K P Z) ∧ Below w.heap.size w w') := by
  have hb0 : Below w.heap.size w ((w.alloc (.cells #[.int .u32 (s : Int), .int .u32 (i : Int), .slice A n c] 39)).alloc (.cells #[.int .u32 (s' : Int), .int .i64 K, .int .i64 P, .int .i64 Z] 41)) := ((Below.refl _ _).alloc (Nat.le_refl _) _).alloc (by simp) _
  have hx1 := boxA w (.cells #[.int .u32 (s : Int), .int .u32 (i : Int), .slice A n c] 39) (.cells #[.int .u32 (s' : Int), .int .i64 K, .int .i64 P, .int .i64 Z] 41)
  have hx2 := boxB w (.cells #[.int .u32 (s : Int), .int .u32 (i : Int), .slice A n c] 39) (.cells #[.int .u32 (s' : Int), .int .i64 K, .int .i64 P, .int .i64 Z] 41)
  have hz0 : ((w.alloc (.cells #[.int .u32 (s : Int), .int .u32 (i : Int), .slice A n c] 39)).alloc (.cells #[.int .u32 (s' : Int), .int .i64 K, .int .i64 P, .int .i64 Z] 41)).heap.size = w.heap.size + 2 := by simp
  cases hm : mayB K P Z with
  | false =>
    have HM := Lib.hid hm
    go_enter Try.func28, Try.ntmps28
    go_wp2_with fail
    refine (r7may_any _ K P Z _).mono ?_
    rintro e w1 ⟨rfl, hb1⟩
    go_wp2
    go_ret
    exact ⟨_, rfl, (by show (1 : Int) = _; unfold fitsC; rw [if_pos HM.out]), hb0.trans (hb1.mono (by omega))⟩
  | true =>
    have HM := Lib.hid hm
    by_cases h1 : s = s'
    · subst h1
      by_cases h2 : (n : Int) = Z
      · subst h2
        go_enter Try.func28, Try.ntmps28
        go_wp2_with fail
        refine (r7may_any _ K P n _).mono ?_
        rintro e w1 ⟨rfl, hb1⟩
        obtain ⟨y0, y1, y2⟩ := box3 ((hb1.block w.heap.size (by omega)).trans hx1)
        obtain ⟨u0, u1, u2, u3⟩ := box4 ((hb1.block (w.heap.size + 1) (by omega)).trans hx2)
        go_wp2
        go_ret
        exact ⟨_, rfl, (by show (0 : Int) = _; unfold fitsC; rw [if_neg (by rw [HM.out]; decide), if_neg (by simp), if_neg (by simp)]), hb0.trans (hb1.mono (by omega))⟩
      · have HN := Lib.hid h2
        have h2' : ((n : Int) == Z) = false := by simp [h2]
        go_enter Try.func28, Try.ntmps28
        go_wp2_with fail
        refine (r7may_any _ K P Z _).mono ?_
        rintro e w1 ⟨rfl, hb1⟩
        obtain ⟨y0, y1, y2⟩ := box3 ((hb1.block w.heap.size (by omega)).trans hx1)
        obtain ⟨u0, u1, u2, u3⟩ := box4 ((hb1.block (w.heap.size + 1) (by omega)).trans hx2)
        go_wp2
        go_ret
        exact ⟨_, rfl, (by show (3 : Int) = _; unfold fitsC; rw [if_neg (by rw [HM.out]; decide), if_neg (by simp), if_pos HN.out]), hb0.trans (hb1.mono (by omega))⟩
    · have h1' : ¬ (s : Int) = s' := by omega
      have HN := Lib.hid h1
      clear h1
      go_enter Try.func28, Try.ntmps28
      go_wp2_with fail
      refine (r7may_any _ K P Z _).mono ?_
      rintro e w1 ⟨rfl, hb1⟩
      obtain ⟨y0, y1, y2⟩ := box3 ((hb1.block w.heap.size (by omega)).trans hx1)
      obtain ⟨u0, u1, u2, u3⟩ := box4 ((hb1.block (w.heap.size + 1) (by omega)).trans hx2)
      go_wp2
      go_ret
      exact ⟨_, rfl, (by show (7 : Int) = _; unfold fitsC; rw [if_neg (by rw [HM.out]; decide), if_pos HN.out]), hb0.trans (hb1.mono (by omega))⟩
end Go.Proofs.Ytiogkokcoedonaa
