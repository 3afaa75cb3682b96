/- awake of layer 7. -/
import Derived.Test.YtfgcolplhadcjaaDegree
namespace Go.Proofs.Ytfgcolplhadcjaa
open Go.RowKit
open SoM
theorem root17 (w : World) : Calls Try.prog 23 #[.int .i64 17] w fun e w' => e = .returned (.int .i64 4) ∧ w = w' := root_rt 17 (by omega) (by omega) w
theorem wt41 : wt 4 1 = 393216 := by decide +kernel
theorem new_at (n : Nat) (m : Int) (hm : m = n) (w : World) (h1 : 1 ≤ n) (h2 : n ≤ 80) : Calls Try.prog 21 #[.int .i64 m] w fun e w' => e = .returned (.pointer (some ⟨w.heap.size, 0, none⟩)) ∧ Hid (Tab w' w.heap.size n 0 0 (.slice none 0 0)) ∧ Hid (Below w.heap.size w w') := by subst hm; exact new_in n w h1 h2
theorem degree_at (g n x : Nat) (m : Int) (hm : m = x) (w : World) (h : Tab w g n 0 0 (.slice none 0 0)) (h1 : 1 ≤ n) (h2 : n ≤ 80) (hx : x < 4294967296) :
    Calls Try.prog 20 #[.pointer (some ⟨g, 0, none⟩), .int .u32 m] w (DegOk g n x w) := by subst hm; exact degree_first g n x w h h1 h2 hx
set_option maxRecDepth 100000 in
set_option maxHeartbeats 1600000 in
theorem awake7_any (w : World) : Calls Try.prog 22 #[] w fun e w' => e = .returned (.bool true) ∧ Below w.heap.size w w' := by
  go_enter Try.func22, Try.ntmps22
  go_wp2_with fail
  refine (new_at 4 4 rfl w (by omega) (by omega)).mono ?_
  rintro e w1 ⟨rfl, hT1, hb1⟩
  go_wp2_with fail
  refine (weights_any w.heap.size 4 0 0 _ w1 hT1.out (by omega) (by omega)).mono ?_
  rintro e w2 ⟨A, c, rfl, hown, hb2⟩
  have HB2 : Hid (Below w.heap.size w w2) := hb1.out.trans (hb2.out.mono hb1.out.size)
  obtain ⟨g, c', hv, _, _⟩ := hown.out.form (by omega)
  injection hv with e1 e2 e3
  subst e1 e3
  have hc0 := (hown.out.cellAt 0 (by omega)).trans (uv_get _ 0 (by simp [ws]))
  rw [ws_getD 4 0 (by omega), wt41] at hc0
  clear hown hT1 hb1 hb2
  go_wp2_with fail
  refine (new_at 1 1 rfl w2 (by omega) (by omega)).mono ?_
  rintro e w3 ⟨rfl, hT3, hb3⟩
  clear hc0
  go_wp2_with fail
  refine (degree_at w2.heap.size 1 7 7 rfl w3 hT3.out (by omega) (by omega) (by omega)).mono ?_
  rintro e w4 ⟨d, rfl, hd, _, hbt⟩
  obtain rfl : d = 1 := by have := hd.out.1; have := hd.out.2.1; omega
  have HB4 : Hid (Below w.heap.size w w4) := (HB2.out.trans (hb3.out.mono HB2.out.size)).trans (hbt.out.below HB2.out.size (HB2.out.trans (hb3.out.mono HB2.out.size)).size)
  clear hd hbt hT3 hb3 HB2
  go_wp2_with fail
  refine (root17 w4).mono ?_
  rintro e w5 ⟨rfl, rfl⟩
  go_wp2_with fail
  go_ret
  exact ⟨rfl, HB4.out⟩
end Go.Proofs.Ytfgcolplhadcjaa
