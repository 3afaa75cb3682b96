/- SlotSteps: its walk, all inputs. -/
import Derived.Test.YtgfdpondnkcogaaDoorSlStW
namespace Go.Proofs.YtgfdpondnkcogaaDoor
open Go.RowKit Go.ChangeShapes Go.WideShapes Go.ChangeAt Sh
set_option maxRecDepth 100000 in
set_option maxHeartbeats 1600000 in
theorem slsteps_walk (x : Int) (_ : -9223372036854775808 ≤ x) (_ : x ≤ 9223372036854775807) (FA : Option Addr) (nf fcap : Nat) (fst : List UInt8) (IA : Option Addr) (ni icap : Nat) (img : List UInt8) (w : World) (ht : Tab w)
    (hl : Row w w.heap.size FA nf (bv fst)) (_ : nf ≤ fcap) (_ : fcap ≤ 9223372036854775807) (hl2 : Row w w.heap.size IA ni (bv img)) (_ : ni ≤ icap) (_ : icap ≤ 9223372036854775807) :
    Calls Tryd.prog 5 #[.int .i64 x, .slice FA nf fcap, .slice IA ni icap] w fun e w' => e = .returned (.bool true) ∧ Below w.heap.size w w' := by
  rename_i r1 r2 r3 r4 r5 r6
  clear r1 r2 r3 r4 r5 r6
  by_cases h0 : 512 < nf
  · have q0 : (512 : Int) < nf := by omega
    have HA := Lib.hid (awake20_any w ht)
    clear h0 ht hl hl2
    go_enter Tryd.func5, Tryd.ntmps5
    go_wp2_with fail
    refine HA.out.mono ?_
    rintro e w4 ⟨rfl, hb4⟩
    go_wp2_with fail
    go_ret
    exact ⟨rfl, hb4⟩
  by_cases h1 : ni < 1
  · have q0 : ¬ (512 : Int) < nf := by omega
    have q1 : (ni : Int) < 1 := by omega
    have HA := Lib.hid (awake20_any w ht)
    clear h0 h1 ht hl hl2
    go_enter Tryd.func5, Tryd.ntmps5
    go_wp2_with fail
    refine HA.out.mono ?_
    rintro e w4 ⟨rfl, hb4⟩
    go_wp2_with fail
    go_ret
    exact ⟨rfl, hb4⟩
  by_cases h2 : 512 < ni
  · have q0 : ¬ (512 : Int) < nf := by omega
    have q1 : ¬ (ni : Int) < 1 := by omega
    have q2 : (512 : Int) < ni := by omega
    have HA := Lib.hid (awake20_any w ht)
    clear h0 h1 h2 ht hl hl2
    go_enter Tryd.func5, Tryd.ntmps5
    go_wp2_with fail
    refine HA.out.mono ?_
    rintro e w4 ⟨rfl, hb4⟩
    go_wp2_with fail
    go_ret
    exact ⟨rfl, hb4⟩
  obtain ⟨q, hq, hK⟩ := pick_in x 2 (by omega) (by omega)
  have : q = 0 ∨ q = 1 := by omega
  rcases this with rfl | rfl
  · exact steps_walk0 x hK FA nf fcap fst IA ni icap img w ht hl hl2 (by omega) (by omega) (by omega)
  · exact steps_walk1 x hK FA nf fcap fst IA ni icap img w ht hl hl2 (by omega) (by omega) (by omega)
end Go.Proofs.YtgfdpondnkcogaaDoor
