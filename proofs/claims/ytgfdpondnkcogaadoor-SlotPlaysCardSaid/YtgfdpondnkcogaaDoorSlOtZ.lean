/- SlotOthers: its walk, all inputs. -/
import Derived.Test.YtgfdpondnkcogaaDoorSlOtX
namespace Go.Proofs.YtgfdpondnkcogaaDoor
open Go.RowKit Go.ChangeShapes Go.WideShapes Go.ChangeAt Sh
set_option maxRecDepth 100000 in
set_option maxHeartbeats 800000 in
theorem swrite_badlen (g s n cap : Nat) (A : Option Addr) (w : World) (hs : s = 0 ∨ s = 1) (h : n < 1 ∨ 512 < n) :
    Calls Tryd.prog 13 #[.pointer (some ⟨g, 0, none⟩), .int .i64 (s : Int), .slice A n cap] w fun e w' => e = .returned (.int .i64 1) ∧ w = w' := by
  have HT := Lib.hid (there_yes s w hs)
  have HF := Lib.hid (fits_no (n : Int) w (by omega))
  clear hs h
  go_enter Tryd.func13, Tryd.ntmps13
  go_wp2_with fail
  refine HT.out.mono ?_
  rintro e w' ⟨rfl, rfl⟩
  go_wp2_with fail
  refine HF.out.mono ?_
  rintro e w' ⟨rfl, rfl⟩
  go_wp2_with fail
  go_ret
  exact ⟨rfl, rfl⟩
set_option maxRecDepth 100000 in
set_option maxHeartbeats 800000 in
theorem swrite_noslot (g n cap : Nat) (x : Int) (A : Option Addr) (w : World) (h0 : ¬ x = 0) (h1 : ¬ x = 1) :
    Calls Tryd.prog 13 #[.pointer (some ⟨g, 0, none⟩), .int .i64 x, .slice A n cap] w fun e w' => e = .returned (.int .i64 1) ∧ w = w' := by
  have HT := Lib.hid (there_no x w h0 h1)
  clear h0 h1
  go_enter Tryd.func13, Tryd.ntmps13
  go_wp2_with fail
  refine HT.out.mono ?_
  rintro e w' ⟨rfl, rfl⟩
  go_wp2_with fail
  go_ret
  exact ⟨rfl, rfl⟩
set_option maxRecDepth 100000 in
set_option maxHeartbeats 1600000 in
theorem sloth_walk (x : Int) (_ : -9223372036854775808 ≤ x) (_ : x ≤ 9223372036854775807) (IA : Option Addr) (ni icap : Nat) (img : List UInt8) (at_ : Int) (_ : -9223372036854775808 ≤ at_) (_ : at_ ≤ 9223372036854775807) (xb : UInt8) (w : World) (ht : Tab w)
    (hl2 : Row w w.heap.size IA ni (bv img)) (_ : ni ≤ icap) (_ : icap ≤ 9223372036854775807) :
    Calls Tryd.prog 6 #[.int .i64 x, .slice IA ni icap, .int .i64 at_, .int .u8 (xb.toNat : Int)] w fun e w' => e = .returned (.bool true) ∧ Below w.heap.size w w' := by
  rename_i r1 r2 r3 r4 r5 r6
  clear r3 r4 r5 r6
  have HT := Lib.hid ht
  by_cases h0 : ni < 1
  · have q0 : (ni : Int) < 1 := by omega
    have HW := Lib.hid (fun (g : Nat) W => swrite_badlen g 0 ni icap IA W (.inl rfl) (by omega))
    clear h0 ht hl2
    go_enter Tryd.func6, Tryd.ntmps6
    go_wp2_with fail
    refine (new_any 9 w ⟨by omega, by omega⟩).mono ?_
    rintro e w1 ⟨g, rfl, hg, hf, hb⟩
    go_wp2_with fail
    refine (HW.out g w1).mono ?_
    rintro e w2 ⟨rfl, rfl⟩
    have HA := Lib.hid (awake20_any w1 (HT.out.below hb.out HT.out.1))
    go_wp2_with fail
    refine HA.out.mono ?_
    rintro e w4 ⟨rfl, hb4⟩
    go_wp2_with fail
    go_ret
    exact ⟨rfl, hb.out.trans (hb4.mono hb.out.size)⟩
  by_cases h1 : 512 < ni
  · have q0 : ¬ (ni : Int) < 1 := by omega
    have q1 : (512 : Int) < ni := by omega
    have HW := Lib.hid (fun (g : Nat) W => swrite_badlen g 0 ni icap IA W (.inl rfl) (by omega))
    clear h0 h1 ht hl2
    go_enter Tryd.func6, Tryd.ntmps6
    go_wp2_with fail
    refine (new_any 9 w ⟨by omega, by omega⟩).mono ?_
    rintro e w1 ⟨g, rfl, hg, hf, hb⟩
    go_wp2_with fail
    refine (HW.out g w1).mono ?_
    rintro e w2 ⟨rfl, rfl⟩
    have HA := Lib.hid (awake20_any w1 (HT.out.below hb.out HT.out.1))
    go_wp2_with fail
    refine HA.out.mono ?_
    rintro e w4 ⟨rfl, hb4⟩
    go_wp2_with fail
    go_ret
    exact ⟨rfl, hb.out.trans (hb4.mono hb.out.size)⟩
  by_cases g0 : x < 0
  · have q0 : ¬ (ni : Int) < 1 := by omega
    have q1 : ¬ (512 : Int) < ni := by omega
    have HR := Lib.hid (fun (g : Nat) W => sread_no (some ⟨g, 0, none⟩) x 1 W (by omega) (by omega))
    have HW := Lib.hid (fun (g : Nat) W => swrite_noslot g ni icap x IA W (by omega) (by omega))
    clear h0 h1 ht hl2
    go_enter Tryd.func6, Tryd.ntmps6
    go_wp2_with fail
    refine (new_any 9 w ⟨by omega, by omega⟩).mono ?_
    rintro e w1 ⟨g, rfl, hg, hf, hb⟩
    have HST := Lib.hid (steps_any g _ w1 hf.out)
    rw [show ((flNew 9).fill 0 3584).steps = 0 from rfl] at HST
    have HA := Lib.hid (awake20_any w1 (HT.out.below hb.out HT.out.1))
    clear hf
    go_wp2_with fail
    refine (HR.out g w1).mono ?_
    rintro e w2 ⟨rfl, rfl⟩
    go_wp2_with fail
    refine (HW.out g w1).mono ?_
    rintro e w2 ⟨rfl, rfl⟩
    go_wp2_with fail
    refine HST.out.mono ?_
    rintro e w2 ⟨rfl, rfl⟩
    go_wp2_with fail
    refine HA.out.mono ?_
    rintro e w4 ⟨rfl, hb4⟩
    go_wp2_with fail
    go_ret
    exact ⟨rfl, hb.out.trans (hb4.mono hb.out.size)⟩
  by_cases g1 : 1 < x
  · have q0 : ¬ (ni : Int) < 1 := by omega
    have q1 : ¬ (512 : Int) < ni := by omega
    have q2 : ¬ x < 0 := by omega
    have HR := Lib.hid (fun (g : Nat) W => sread_no (some ⟨g, 0, none⟩) x 1 W (by omega) (by omega))
    have HW := Lib.hid (fun (g : Nat) W => swrite_noslot g ni icap x IA W (by omega) (by omega))
    clear h0 h1 ht hl2
    go_enter Tryd.func6, Tryd.ntmps6
    go_wp2_with fail
    refine (new_any 9 w ⟨by omega, by omega⟩).mono ?_
    rintro e w1 ⟨g, rfl, hg, hf, hb⟩
    have HST := Lib.hid (steps_any g _ w1 hf.out)
    rw [show ((flNew 9).fill 0 3584).steps = 0 from rfl] at HST
    have HA := Lib.hid (awake20_any w1 (HT.out.below hb.out HT.out.1))
    clear hf
    go_wp2_with fail
    refine (HR.out g w1).mono ?_
    rintro e w2 ⟨rfl, rfl⟩
    go_wp2_with fail
    refine (HW.out g w1).mono ?_
    rintro e w2 ⟨rfl, rfl⟩
    go_wp2_with fail
    refine HST.out.mono ?_
    rintro e w2 ⟨rfl, rfl⟩
    go_wp2_with fail
    refine HA.out.mono ?_
    rintro e w4 ⟨rfl, hb4⟩
    go_wp2_with fail
    go_ret
    exact ⟨rfl, hb.out.trans (hb4.mono hb.out.size)⟩
  have : x = 0 ∨ x = 1 := by omega
  rcases this with rfl | rfl
  · exact oth_walk0 IA ni icap img at_ xb w ht hl2 (by omega) (by omega)
  · exact oth_walk1 IA ni icap img at_ xb w ht hl2 (by omega) (by omega)
end Go.Proofs.YtgfdpondnkcogaaDoor
