/- awake of layer 13. -/
import Derived.Test.YtghadeingmccfaaFrame
namespace Go.Proofs.Ytghadeingmccfaa
open Go.RowKit
open FrM (flen inner frame)
theorem wrap_at (kind : Int) (k : UInt8) (hk : kind = (k.toNat : Int)) (B n cap : Nat) (A : Option Addr) (l : List UInt8) (w : World) (hl : Row w B A n (bv l)) (hn : n ≤ 291) (hB : B ≤ w.heap.size) :
    Calls Try.prog 7 #[.int .i64 kind, .slice A n cap] w (WrapOk (frame k l) w) := by
  subst hk; exact wrap_ok k B n cap A l w hl hn hB
theorem frame_head (k : UInt8) (l : List UInt8) (h : l.length ≤ 291) : headOk (frame k l) :=
  ⟨FrM.frame_0 k l, FrM.frame_1 k l, by rw [FrM.frame_flen k l (by omega), FrM.frame_length]⟩
/-- what was wrapped is unwrapped -/
theorem unwrap_frame (k : UInt8) (l : List UInt8) (B n cap : Nat) (A : Option Addr) (w : World) (hl : Row w B A n (bv (frame k l))) (h : l.length ≤ 291) (hn : n ≤ cap) (hcap : cap ≤ 9223372036854775807) (hB : B ≤ w.heap.size) :
    Calls Try.prog 9 #[.slice A n cap] w (UnOk k.toNat l w) := by
  have hbl := hl.blen
  rw [FrM.frame_length] at hbl
  have := unwrap_ok B n cap A (frame k l) w hl (by omega) (by omega) hn hcap hB (frame_head k l h) (FrM.frame_right k l)
  rwa [FrM.frame_2, FrM.frame_load] at this
theorem awake_frame : (frame 1 []).take 5 = [68, 80, 1, 0, 0] := by decide +kernel
set_option maxHeartbeats 400000 in
theorem awake13_any (w : World) : Calls Try.prog 6 #[] w fun e w' => e = .returned (.bool true) ∧ Below w.heap.size w w' := by
  go_enter Try.func6, Try.ntmps6
  go_wp2_with fail
  refine (wrap_at 1 1 rfl w.heap.size 0 0 none [] w (Row.nil _ _ _) (by omega) (Nat.le_refl _)).mono ?_
  rintro e w1 ⟨A1, n1, c1, rfl, hn1, hown1, hb1⟩
  have hn9 : n1 = 9 := by rw [hn1.out, FrM.frame_length]; rfl
  subst hn9
  have hs1 := hb1.size
  have hc1 := own_cap hown1
  have hc5 : (5 : Int) ≤ (c1 : Int) := by omega
  go_wp2_with fail
  refine (unwrap_frame 1 [] w1.heap.size 9 c1 A1 w1 (Row.of_own hown1) (by simp) hc1.1 hc1.2 (Nat.le_refl _)).mono ?_
  rintro e w2 ⟨A2, n2, c2, rfl, hn2, hrow2, hc2, hb2⟩
  have hn0 : n2 = 0 := hn2.out
  subst hn0
  have hk := run_string_row (P := Try.prog) (show Row w2 w1.heap.size A1 5 (bv [68, 80, 1, 0, 0]) by rw [← awake_frame, ← bv_take]; exact ((Row.of_own hown1).head (by omega)).below hb2) c1 22 9 5 Try.underlying22 Try.underlying5 Try.underlying9
  go_wp2_with fail
  go_ret
  exact ⟨rfl, hb1.trans (hb2.mono hs1)⟩
end Go.Proofs.Ytghadeingmccfaa
