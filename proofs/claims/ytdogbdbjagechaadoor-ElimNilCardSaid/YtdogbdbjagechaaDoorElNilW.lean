/- ElimNil's walk. -/
import Derived.Test.YtdogbdbjagechaaDoorElAwake
namespace Go.Proofs.YtdogbdbjagechaaDoor.El
open Go.RowKit
open VecM Vc
set_option maxRecDepth 100000 in
set_option maxHeartbeats 1600000 in
theorem elimNil_walk (x : Int) (A : Option Addr) (n cap : Nat) (w : World) (ht : DTab w) :
    Calls Tryd.prog 5 #[.int .i64 x, .slice A n cap] w fun e w' => e = .returned (.bool true) ∧ Below w.heap.size w w' := by
  have HT := Lib.hid ht
  clear ht
  by_cases hn : 100 < n
  · go_enter Tryd.func5, Tryd.ntmps5
    go_wp2_with fail
    refine (awake6_any w HT.out).mono ?_
    rintro e w1 ⟨rfl, hb⟩
    go_wp2_with fail
    go_ret
    exact ⟨rfl, hb.out⟩
  obtain ⟨j, hj⟩ : ∃ j : Nat, IntKind.u64.wrap x % 257 = (j : Int) := ⟨(IntKind.u64.wrap x % 257).toNat, by
    have : 0 ≤ IntKind.u64.wrap x % 257 := Int.emod_nonneg _ (by decide)
    omega⟩
  have hjl : j < 257 := by have : IntKind.u64.wrap x % 257 < 257 := Int.emod_lt_of_pos _ (by decide); omega
  have hu : 0 ≤ IntKind.u64.wrap x ∧ IntKind.u64.wrap x < 18446744073709551616 := by rw [IntKind.wrap_u64]; omega
  have HJ2 : Hid ((IntKind.u64.wrap x).tmod 257 = (j : Int)) := Lib.hid (by rw [Int.tmod_eq_emod_of_nonneg hu.1]; exact hj)
  have HJ := Lib.hid hj
  have hji : (j : Int) < 257 := by omega
  have HJL := Lib.hid hjl
  clear hj hu hjl
  go_enter Tryd.func5, Tryd.ntmps5
  go_wp2_with (first | rw [HJ2.out] | rw [HJ.out])
  refine (new_ok j w (by have := HJL.out; omega)).mono ?_
  rintro e w1 ⟨g, h, rfl, _, _, _, hb1⟩
  have HB1 := Lib.hid hb1.out
  clear hb1 HJ HJ2
  go_wp2_with fail
  refine (row_nil x w1).mono ?_
  rintro e w2 ⟨rfl, rfl⟩
  go_wp2_with fail
  refine (newI 3 1 w1 (by omega) (by omega)).mono ?_
  rintro e w2 ⟨gm, rfl, hm, hb2⟩
  obtain ⟨gr, rs, _, hm⟩ := hm.out
  have HM := Lib.hid hm
  have HB2 := Lib.hid (HB1.out.trans (hb2.out.mono HB1.out.size))
  clear hm hb2 HB1
  go_wp2_with fail
  refine (add_nilm _ A n cap w2).mono ?_
  rintro e w3 ⟨rfl, hb3⟩
  have HM3 := Lib.hid (HM.out.below hb3.out)
  have HB3 := Lib.hid (HB2.out.trans (hb3.out.mono HB2.out.size))
  clear hb3 HM HB2
  go_wp2_with fail
  refine (says_nilm _ w3).mono ?_
  rintro e w4 ⟨rfl, hb4⟩
  have HM4 := Lib.hid (HM3.out.below hb4.out)
  have HB4 := Lib.hid (HB3.out.trans (hb4.out.mono HB3.out.size))
  clear hb4 HM3 HB3
  go_wp2_with fail
  refine (rank_nil w4).mono ?_
  rintro e w5 ⟨rfl, rfl⟩
  go_wp2_with fail
  refine (full_nil w4).mono ?_
  rintro e w5 ⟨rfl, hb5⟩
  have HM5 := Lib.hid (HM4.out.below hb5.out)
  have HB5 := Lib.hid (HB4.out.trans (hb5.out.mono HB4.out.size))
  clear hb5 HM4 HB4
  go_wp2_with fail
  refine (solve_nilm w5).mono ?_
  rintro e w6 ⟨rfl, hb6⟩
  have HM6 := Lib.hid (HM5.out.below hb6.out)
  have HB6 := Lib.hid (HB5.out.trans (hb6.out.mono HB5.out.size))
  clear hb6 HM5 HB5
  go_wp2_with fail
  refine (bytes_nilm w6).mono ?_
  rintro e w7 ⟨rfl, rfl⟩
  go_wp2_with fail
  refine (says_nilv _ gm gr 3 1 rs w6 HM6.out).mono ?_
  rintro e w7 ⟨rfl, hb7⟩
  have HM7 := Lib.hid (HM6.out.below hb7.out)
  have HB7 := Lib.hid (HB6.out.trans (hb7.out.mono HB6.out.size))
  clear hb7 HM6 HB6
  go_wp2_with fail
  refine (add_nilv _ gm gr 3 1 rs cap A n w7 HM7.out).mono ?_
  rintro e w8 ⟨rfl, hb8⟩
  have HB8 := Lib.hid (HB7.out.trans (hb8.out.mono HB7.out.size))
  clear hb8 HM7 HB7
  go_wp2_with fail
  refine (awake6_any w8 (HT.out.grow HB8.out)).mono ?_
  rintro e w9 ⟨rfl, hb9⟩
  have HB9 := Lib.hid (HB8.out.trans (hb9.out.mono HB8.out.size))
  clear hb9
  go_wp2_with fail
  go_ret
  exact ⟨rfl, HB9.out⟩
theorem elimNil_law (x : Int) (_ : -9223372036854775808 ≤ x) (_ : x ≤ 9223372036854775807) (A : Option Addr) (n cap : Nat) (l : List UInt8) (w : World) (ht : DTab w) (_ : Row w w.heap.size A n (bv l)) (_ : n ≤ cap) (_ : cap ≤ 9223372036854775807) :
    Calls Tryd.prog 5 #[.int .i64 x, .slice A n cap] w fun e w' => e = .returned (.bool true) ∧ Below w.heap.size w w' := elimNil_walk x A n cap w ht
end Go.Proofs.YtdogbdbjagechaaDoor.El
