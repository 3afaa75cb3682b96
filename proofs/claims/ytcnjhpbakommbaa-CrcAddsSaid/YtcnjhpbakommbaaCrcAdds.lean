/- CrcAdds: sums go on, byte by byte and in whatever rows. For every input, no condition. -/
import Derived.Test.YtcnjhpbakommbaaRows
import Derived.Test.YtcnjhpbakommbaaCrcAwake
import Derived.Test.YtcnjhpbakommbaaLaw
import Derived.ProofKit
import Derived.BigQuiet
import Derived.StillTailTactics
namespace Go.Proofs.Ytcnjhpbakommbaa
open Go.ChangeShapes Go.WideShapes Go.ChangeAt Go.RowKit

def isSumTo (l : List UInt8) (j s : Nat) : Prop := s = CrcM.sum (l.take j) ∧ s < 2 ^ 32
theorem sum_nil : CrcM.sum [] = 0 := by decide +kernel
theorem isSumTo_next {l : List UInt8} {j s : Nat} (h : isSumTo l j s) (hj : j < l.length) : isSumTo l (j + 1) (CrcM.add s [l[j]]) := by
  refine ⟨?_, CrcM.add_lt _ _ h.2⟩
  rw [h.1, CrcM.sum_append, List.take_succ_eq_append_getElem hj]
set_option maxHeartbeats 400000 in
theorem adds_walk (A : Option Addr) (n cap : Nat) (l : List UInt8) (cut : Int) (hc1 : -9223372036854775808 ≤ cut) (hc2 : cut ≤ 9223372036854775807) (w : World) (hl : Row w w.heap.size A n (bv l)) (hn : n ≤ cap) (hcap : cap ≤ 9223372036854775807) :
    Calls Try.prog 5 #[.slice A n cap, .int .i64 cut] w fun e w' => e = .returned (.bool true) ∧ Below w.heap.size w w' := by
  by_cases hbig : 2000 < n
  · go_enter Try.func5, Try.ntmps5
    go_wp2_with fail
    refine (awake_any _).mono ?_
    rintro e w' ⟨rfl, hb⟩
    go_wp2
    go_ret
    exact ⟨rfl, hb⟩
  · obtain ⟨k, hk, hK⟩ := pick_in cut ((n : Int) + 1) (by omega) (by omega)
    have hS0 : Hid (isSumTo l 0 0) := ⟨by rw [List.take_zero]; decide +kernel, by decide⟩
    have HB := Lib.hid hl.blen
    go_enter Try.func5, Try.ntmps5
    go_wp2_with fail
    rw [hK]
    clear hK
    go_loop [6, 7, 22] (fun v _ i => ∃ (j s : Nat), j ≤ n ∧ Hid (isSumTo l j s) ∧ i = .int .i64 j ∧ v = .int .u32 s) (fun _ _ i => n - (intOf i).toNat)
    case atStart => exact ⟨0, 0, by omega, hS0, rfl, rfl⟩
    case round =>
      obtain ⟨j, s, hj, hs, rfl, rfl⟩ := hrel
      by_cases hlt : j < n
      · have hrow : Row w w.heap.size (A.map fun x => x.add j) 1 (bv [l[j]'(by rw [HB.out]; exact hlt)]) := by
          have := hl.cut (k := j) (m := 1) (by omega)
          rwa [bv_drop, bv_take, List.drop_eq_getElem_cons (by rw [HB.out]; exact hlt), List.take_succ_cons, List.take_zero] at this
        go_wp2_with fail
        refine (add_any s hs.out.2 _ 1 _ _ _ _ hrow (by omega)).mono ?_
        rintro e w' ⟨rfl, rfl⟩
        go_wp2
        go_round
        case rel => exact ⟨j + 1, _, by omega, isSumTo_next hs.out (by rw [HB.out]; exact hlt), by go_num, rfl⟩
        case measure => simp [intOf]; omega
      · have : j = n := by omega
        subst this
        obtain ⟨hs1, hs2⟩ := hs.out
        rw [List.take_of_length_le (by rw [HB.out]; omega)] at hs1
        subst hs1
        have C1 := Lib.hid (still_of (sum_any _ _ cap _ l w.drew hl (by omega)))
        have C2 := Lib.hid (still_of (sum_any _ _ cap _ _ w.drew (show Row w.drew w.heap.size A k (bv (l.take k)) by rw [← bv_take]; exact hl.head (by omega)) (by omega)))
        have C3 := Lib.hid (still_of (add_any _ (CrcM.sum_lt (l.take k)) _ _ (cap - k) _ _ w.drew (show Row w.drew w.heap.size _ _ (bv (l.drop k)) by rw [← bv_drop]; exact hl.tail (k := k) (by omega) hn) (by omega)))
        have e3 : CrcM.add (CrcM.sum (l.take k)) (l.drop k) = CrcM.sum l := by rw [CrcM.sum_append, List.take_append_drop]
        rw [e3] at C3
        clear e3
        have C4 := Lib.hid (still_of (add_any _ (CrcM.sum_lt l) _ 0 0 none [] w.drew (Row.nil w.drew w.heap.size none) (by omega)))
        rw [CrcM.add_nil] at C4
        have C5 := Lib.hid (still_of (sum_any _ 0 0 none [] w.drew (Row.nil w.drew w.heap.size none) (by omega)))
        rw [sum_nil] at C5
        have hkj : k ≤ j := by omega
        have hkc : k ≤ cap := by omega
        go_wp2_with fail
        refine wp_region_still_tail 27 (by kernel_rfl) (by kernel_rfl) ?_
        simp only [List.take_succ_cons, List.take_zero, List.drop_succ_cons, List.drop_zero]
        repeat still_step
        still_call C1.out
        repeat still_step
        still_call C2.out
        repeat still_step
        still_call C3.out
        repeat still_step
        still_call C4.out
        repeat still_step
        still_call C5.out
        repeat still_step
        refine wpStill_nil ?_
        change wpList _ _ _ _ _ w.drew
        have hbw : Below w.heap.size w w.drew := (Below.refl _ _).drew
        generalize w.drew = w2 at hbw ⊢
        clear C1 C2 C3 C4 C5
        go_wp2_with fail
        all_goals
          refine (awake_any _).mono ?_
          rintro e w' ⟨rfl, hb⟩
          go_wp2
          go_ret
          exact ⟨rfl, hbw.trans (hb.mono hbw.size)⟩

set_option maxRecDepth 100000 in
theorem adds_lifted (os : Os) (started : os.Started) (H : Type) (enc : TypeId × Value → H) :
    ReturnsInHanded {} Try.checked os 5 .any (Rows.crcAddsSpec.pre6 enc Try.prog Try.f5 Rows.crcAddsRow.domain false) (Rows.crcAddsSpec.post enc Try.prog Try.f5 false true false false) := by
  refine law_lift (C := Try.checked) (tb := 4) Try.own started (by kernel_rfl) Try.func5
    (ChangeSpec.witness6 (enc := enc) (C := Try.checked) false ⟨#[], #[.slice none 0 0, .int .i64 0], []⟩ 8 (by kernel_rfl) (by kernel_rfl) (by kernel_rfl) (by kernel_rfl)) Try.laidOut (by kernel_rfl) rfl rfl Try.underlying4 ?_ ?_
  · intro ds hds
    match ds, hds with
    | [_, _], _ => rfl
  intro W base args ds p hval0 hA0 _ _ _
  have hval : ∀ (j : Nat) t v, Try.f5.params[j]? = some t → args[j]? = some v → Value.okWide Try.prog W .any base t v := hval0
  have hA : DataW.TrodAll enc Try.prog W 0 (fun _ => true) true Try.f5.params.toList args.toList ds p := hA0
  rw [Try.params5] at hA hval
  obtain ⟨v0, v1, d0, d1, p0, p1, rfl, rfl, rfl, h0, h1⟩ := trodAll_two hA
  obtain ⟨A, n, cap, l, rfl, hrow, hnc, hcm⟩ := open_bytes Try.underlying22 Try.underlying5 Try.cells5 (hval 0 22 v0 rfl rfl) h0
  obtain ⟨cut, rfl, rfl, rfl, wcut⟩ := open_int Try.underlying3 (hval 1 3 v1 rfl rfl) h1
  have hb : -9223372036854775808 ≤ cut ∧ cut ≤ 9223372036854775807 := by simpa [Lit.wf, IntKind.min, IntKind.max, IntKind.signed, IntKind.bits] using wcut
  exact adds_walk A n cap l cut hb.1 hb.2 W hrow hnc hcm

theorem crcAdds_holds : Rows.CrcAddsSaid :=
  OpenClaim.holds_of_wide 5 Try.f5 rfl rfl rfl rfl rfl rfl rfl ⟨rfl, rfl, rfl, rfl, rfl⟩ rfl rfl rfl rfl rfl (by kernel_rfl) Try.func5 (by kernel_rfl)
    (of_decide_eq_true (by kernel_rfl)) (by unfold Func.isWrapper; rw [if_neg (of_decide_eq_false (by kernel_rfl))]; exact ⟨rfl, rfl⟩)
    (fun os started H enc _ => adds_lifted os started H enc)
end Go.Proofs.Ytcnjhpbakommbaa
