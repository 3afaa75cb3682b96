/- SlotWhole: its walk, all inputs. -/
import Derived.Test.YtgfdpondnkcogaaDoorSlWhX
namespace Go.Proofs.YtgfdpondnkcogaaDoor
open Go.RowKit Go.ChangeShapes Go.WideShapes Go.ChangeAt Sh
set_option maxRecDepth 100000 in
set_option maxHeartbeats 1600000 in
theorem slwhole_walk (x : Int) (_ : -9223372036854775808 ≤ x) (_ : x ≤ 9223372036854775807) (WA : Option Addr) (nw wcap : Nat) (was : List UInt8) (IA : Option Addr) (ni icap : Nat) (img : List UInt8) (fz : Int) (_ : -9223372036854775808 ≤ fz) (_ : fz ≤ 9223372036854775807) (tn : Int) (_ : -9223372036854775808 ≤ tn) (_ : tn ≤ 9223372036854775807) (w : World) (ht : Tab w)
    (hl : Row w w.heap.size WA nw (bv was)) (_ : nw ≤ wcap) (_ : wcap ≤ 9223372036854775807) (hl2 : Row w w.heap.size IA ni (bv img)) (_ : ni ≤ icap) (_ : icap ≤ 9223372036854775807) :
    Calls Tryd.prog 4 #[.int .i64 x, .slice WA nw wcap, .slice IA ni icap, .int .i64 fz, .int .i64 tn] w fun e w' => e = .returned (.bool true) ∧ Below w.heap.size w w' := by
  rename_i r1 r2 r3 r4 r5 r6 r7 r8 r9 r10
  clear r1 r2 r3 r4 r5 r6 r7 r8 r9 r10
  by_cases h1 : nw < 1
  · have q1 : (nw : Int) < 1 := by omega
    have HA := Lib.hid (awake20_any w ht)
    clear h1 ht hl hl2
    go_enter Tryd.func4, Tryd.ntmps4
    go_wp2_with fail
    refine HA.out.mono ?_
    rintro e w4 ⟨rfl, hb4⟩
    go_wp2_with fail
    go_ret
    exact ⟨rfl, hb4⟩
  by_cases h2 : 512 < nw
  · have q1 : ¬ (nw : Int) < 1 := by omega
    have q2 : (512 : Int) < nw := by omega
    have HA := Lib.hid (awake20_any w ht)
    clear h1 h2 ht hl hl2
    go_enter Tryd.func4, Tryd.ntmps4
    go_wp2_with fail
    refine HA.out.mono ?_
    rintro e w4 ⟨rfl, hb4⟩
    go_wp2_with fail
    go_ret
    exact ⟨rfl, hb4⟩
  by_cases h3 : ni < 1
  · have q1 : ¬ (nw : Int) < 1 := by omega
    have q2 : ¬ (512 : Int) < nw := by omega
    have q3 : (ni : Int) < 1 := by omega
    have HA := Lib.hid (awake20_any w ht)
    clear h1 h2 h3 ht hl hl2
    go_enter Tryd.func4, Tryd.ntmps4
    go_wp2_with fail
    refine HA.out.mono ?_
    rintro e w4 ⟨rfl, hb4⟩
    go_wp2_with fail
    go_ret
    exact ⟨rfl, hb4⟩
  by_cases h4 : 512 < ni
  · have q1 : ¬ (nw : Int) < 1 := by omega
    have q2 : ¬ (512 : Int) < nw := by omega
    have q3 : ¬ (ni : Int) < 1 := by omega
    have q4 : (512 : Int) < ni := by omega
    have HA := Lib.hid (awake20_any w ht)
    clear h1 h2 h3 h4 ht hl hl2
    go_enter Tryd.func4, Tryd.ntmps4
    go_wp2_with fail
    refine HA.out.mono ?_
    rintro e w4 ⟨rfl, hb4⟩
    go_wp2_with fail
    go_ret
    exact ⟨rfl, hb4⟩
  obtain ⟨q, hq, hK⟩ := pick_in x 2 (by omega) (by omega)
  have : q = 0 ∨ q = 1 := by omega
  rcases this with rfl | rfl
  · exact whole_walk0 x hK WA nw wcap was IA ni icap img fz tn w ht hl hl2 (by omega) (by omega) (by omega) (by omega)
  · exact whole_walk1 x hK WA nw wcap was IA ni icap img fz tn w ht hl hl2 (by omega) (by omega) (by omega) (by omega)
end Go.Proofs.YtgfdpondnkcogaaDoor
