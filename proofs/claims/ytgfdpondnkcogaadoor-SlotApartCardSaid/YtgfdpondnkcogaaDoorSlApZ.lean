/- SlotApart: its walk, all inputs. -/
import Derived.Test.YtgfdpondnkcogaaDoorSlApW
import Derived.Test.YtgfdpondnkcogaaDoorSlApB
import Derived.Test.YtgfdpondnkcogaaDoorSlApC
import Derived.Test.YtgfdpondnkcogaaDoorSlApD
namespace Go.Proofs.YtgfdpondnkcogaaDoor
open Go.RowKit Go.ChangeShapes Go.WideShapes Go.ChangeAt Sh
set_option maxRecDepth 100000 in
set_option maxHeartbeats 1600000 in
theorem slapart_walk (x : Int) (_ : -9223372036854775808 ≤ x) (_ : x ≤ 9223372036854775807) (FA : Option Addr) (nf fcap : Nat) (fst : List UInt8) (IA : Option Addr) (ni icap : Nat) (img : List UInt8) (w : World) (ht : Tab w)
    (hl : Row w w.heap.size FA nf (bv fst)) (_ : nf ≤ fcap) (_ : fcap ≤ 9223372036854775807) (hl2 : Row w w.heap.size IA ni (bv img)) (hic : ni ≤ icap) (hicm : icap ≤ 9223372036854775807) :
    Calls Tryd.prog 7 #[.int .i64 x, .slice FA nf fcap, .slice IA ni icap] w fun e w' => e = .returned (.bool true) ∧ Below w.heap.size w w' := by
  rename_i r1 r2 r3 r4
  clear r1 r2 r3 r4
  by_cases h0 : nf < 1
  · have q0 : (nf : Int) < 1 := by omega
    have HA := Lib.hid (awake20_any w ht)
    clear h0 ht hl hl2 hic hicm
    go_enter Tryd.func7, Tryd.ntmps7
    go_wp2_with fail
    refine HA.out.mono ?_
    rintro e w4 ⟨rfl, hb4⟩
    go_wp2_with fail
    go_ret
    exact ⟨rfl, hb4⟩
  by_cases h1 : 512 < nf
  · have q0 : ¬ (nf : Int) < 1 := by omega
    have q1 : (512 : Int) < nf := by omega
    have HA := Lib.hid (awake20_any w ht)
    clear h0 h1 ht hl hl2 hic hicm
    go_enter Tryd.func7, Tryd.ntmps7
    go_wp2_with fail
    refine HA.out.mono ?_
    rintro e w4 ⟨rfl, hb4⟩
    go_wp2_with fail
    go_ret
    exact ⟨rfl, hb4⟩
  by_cases h2 : ni < 1
  · have q0 : ¬ (nf : Int) < 1 := by omega
    have q1 : ¬ (512 : Int) < nf := by omega
    have q2 : (ni : Int) < 1 := by omega
    have HA := Lib.hid (awake20_any w ht)
    clear h0 h1 h2 ht hl hl2 hic hicm
    go_enter Tryd.func7, Tryd.ntmps7
    go_wp2_with fail
    refine HA.out.mono ?_
    rintro e w4 ⟨rfl, hb4⟩
    go_wp2_with fail
    go_ret
    exact ⟨rfl, hb4⟩
  by_cases h3 : 512 < ni
  · have q0 : ¬ (nf : Int) < 1 := by omega
    have q1 : ¬ (512 : Int) < nf := by omega
    have q2 : ¬ (ni : Int) < 1 := by omega
    have q3 : (512 : Int) < ni := by omega
    have HA := Lib.hid (awake20_any w ht)
    clear h0 h1 h2 h3 ht hl hl2 hic hicm
    go_enter Tryd.func7, Tryd.ntmps7
    go_wp2_with fail
    refine HA.out.mono ?_
    rintro e w4 ⟨rfl, hb4⟩
    go_wp2_with fail
    go_ret
    exact ⟨rfl, hb4⟩
  obtain ⟨q, hq, hK⟩ := pick_in x 2 (by omega) (by omega)
  have : q = 0 ∨ q = 1 := by omega
  by_cases hmn : ni ≤ 256
  · rcases this with rfl | rfl
    · exact apart_walk0a x hK FA nf fcap fst IA ni icap img w ht hl hl2 (by omega) (by omega) (by omega) (by omega) hic hicm hmn
    · exact apart_walk1a x hK FA nf fcap fst IA ni icap img w ht hl hl2 (by omega) (by omega) (by omega) (by omega) hic hicm hmn
  · rcases this with rfl | rfl
    · exact apart_walk0b x hK FA nf fcap fst IA ni icap img w ht hl hl2 (by omega) (by omega) (by omega) (by omega) hic hicm (by omega)
    · exact apart_walk1b x hK FA nf fcap fst IA ni icap img w ht hl hl2 (by omega) (by omega) (by omega) (by omega) hic hicm (by omega)
end Go.Proofs.YtgfdpondnkcogaaDoor
