/- CrcPuts: what is put twice is right twice; less than four bytes are never right. For every input, no condition. -/
import Derived.Test.YtcnjhpbakommbaaRows
import Derived.Test.YtcnjhpbakommbaaCrcAwake
import Derived.Test.YtcnjhpbakommbaaCrcPut
import Derived.Test.YtcnjhpbakommbaaLaw
namespace Go.Proofs.Ytcnjhpbakommbaa
open Go.ChangeShapes Go.WideShapes Go.ChangeAt Go.RowKit

open CrcM (put put_length put_take put_right)
set_option maxHeartbeats 400000 in
theorem puts_walk (A : Option Addr) (n cap : Nat) (l : List UInt8) (w : World) (hl : Row w w.heap.size A n (bv l)) (hn : n ≤ cap) (hcap : cap ≤ 9223372036854775807) :
    Calls Try.prog 8 #[.slice A n cap] w fun e w' => e = .returned (.bool true) ∧ Below w.heap.size w w' := by
  by_cases hbig : 2000 < n
  · go_enter Try.func8, Try.ntmps8
    go_wp2_with fail
    refine (awake_any _).mono ?_
    rintro e w' ⟨rfl, hb⟩
    go_wp2
    go_ret
    exact ⟨rfl, hb⟩
  · obtain ⟨m, hm, hm3⟩ : ∃ m, m = min n 3 ∧ m ≤ n := ⟨min n 3, rfl, by omega⟩
    have HM := Lib.hid hm
    have hm4 : m < 4 := by omega
    clear hm
    have HB := Lib.hid hl.blen
    go_enter Try.func8, Try.ntmps8
    go_wp2_with fail
    refine (put_any w.heap.size n cap A l _ hl (by omega) (Nat.le_refl _)).mono ?_
    rintro e w1 ⟨A1, n1, c1, rfl, hn1, hown1, hb1⟩
    have hn1' : n1 ≤ 3000 := by have := hn1.out; have := HB.out; simp [CrcM.four] at *; omega
    have hs1 := hb1.size
    go_wp2_with fail
    refine (put_any w1.heap.size n1 c1 A1 (put l) w1 (Row.of_own hown1) (by omega) (Nat.le_refl _)).mono ?_
    rintro e w2 ⟨A2, n2, c2, rfl, hn2, hown2, hb2⟩
    have hs2 := hb2.size
    have hc2 := own_cap hown2
    have hn2' : n2 ≤ 3000 := by have := hn2.out; have := HB.out; simp [CrcM.four, put] at *; omega
    go_wp2_with fail
    refine (right_yes w2.heap.size n2 c2 A2 (put (put l)) w2 (Row.of_own hown2) hc2.1 hc2.2 (by omega) (Nat.le_refl _) (put_right _)).mono ?_
    rintro e w3 ⟨A3, n3, c3, rfl, hn3, hown3, hb3⟩
    have hs3 := hb3.size
    have hc3 := own_cap hown3
    rw [put_take] at hn3 hown3
    have hn3' : n3 ≤ 3000 := by have := hn3.out; have := HB.out; rw [put_length] at *; omega
    go_wp2_with fail
    refine (right_yes w3.heap.size n3 c3 A3 (put l) w3 (Row.of_own hown3) hc3.1 hc3.2 (by omega) (Nat.le_refl _) (put_right _)).mono ?_
    rintro e w4 ⟨A4, n4, c4, rfl, hn4, hown4, hb4⟩
    have hs4 := hb4.size
    rw [put_take] at hn4 hown4
    have hb4' : Below w.heap.size w w4 := ((hb1.trans (hb2.mono hs1)).trans (hb3.mono (by omega))).trans (hb4.mono (by omega))
    have hrow : Row w4 w.heap.size A n (bv l) := hl.below hb4'
    by_cases h3 : n ≤ 3
    · go_wp2_with fail
      refine (right_no w.heap.size n cap A l w4 hrow hn hcap (by omega) (fun h => by have := h.1; have := HB.out; omega)).mono ?_
      rintro e w5 ⟨rfl, hb5⟩
      have hs5 := hb5.size
      have hk1 := run_string_row (P := Try.prog) ((Row.of_own hown4).below hb5) c4 22 9 5 Try.underlying22 Try.underlying5 Try.underlying9
      have hk2 := run_string_row (P := Try.prog) (hrow.below (hb5.mono (by omega))) cap 22 9 5 Try.underlying22 Try.underlying5 Try.underlying9
      have hlen : ((n2 : Int) == (n : Int) + 8) = true := by
        have e1 := hn2.out; have e2 := HB.out; simp [CrcM.four, put] at e1; rw [beq_iff_eq]; omega
      go_wp2_with fail
      refine (awake_any _).mono ?_
      rintro e w6 ⟨rfl, hb6⟩
      go_wp2
      go_ret
      exact ⟨rfl, (hb4'.trans (hb5.mono (by omega))).trans (hb6.mono (by omega))⟩
    · go_wp2_with fail
      refine (right_no w.heap.size 3 cap A (l.take 3) w4 (by rw [← bv_take]; exact hrow.head (by omega)) (by omega) hcap (by omega) (fun h => by have := h.1; simp at this; omega)).mono ?_
      rintro e w5 ⟨rfl, hb5⟩
      have hs5 := hb5.size
      have hk1 := run_string_row (P := Try.prog) ((Row.of_own hown4).below hb5) c4 22 9 5 Try.underlying22 Try.underlying5 Try.underlying9
      have hk2 := run_string_row (P := Try.prog) (hrow.below (hb5.mono (by omega))) cap 22 9 5 Try.underlying22 Try.underlying5 Try.underlying9
      have hlen : ((n2 : Int) == (n : Int) + 8) = true := by
        have e1 := hn2.out; have e2 := HB.out; simp [CrcM.four, put] at e1; rw [beq_iff_eq]; omega
      go_wp2_with fail
      refine (awake_any _).mono ?_
      rintro e w6 ⟨rfl, hb6⟩
      go_wp2
      go_ret
      exact ⟨rfl, (hb4'.trans (hb5.mono (by omega))).trans (hb6.mono (by omega))⟩

set_option maxRecDepth 100000 in
theorem crcPuts_lifted (os : Os) (started : os.Started) (H : Type) (enc : TypeId × Value → H) :
    ReturnsInHanded {} Try.checked os 8 .any (Rows.crcPutsSpec.pre6 enc Try.prog Try.f8 Rows.crcPutsRow.domain false) (Rows.crcPutsSpec.post enc Try.prog Try.f8 false true false false) := by
  refine law_lift (C := Try.checked) (tb := 4) Try.own started (by kernel_rfl) Try.func8
    (ChangeSpec.witness6 (enc := enc) (C := Try.checked) false ⟨#[], #[.slice none 0 0], []⟩ 8 (by kernel_rfl) (by kernel_rfl) (by kernel_rfl) (by kernel_rfl)) Try.laidOut (by kernel_rfl) rfl rfl Try.underlying4 ?_ ?_
  · intro ds hds
    match ds, hds with
    | [_], _ => rfl
  intro W base args ds p hval0 hA0 _ _ _
  have hval : ∀ (j : Nat) t v, Try.f8.params[j]? = some t → args[j]? = some v → Value.okWide Try.prog W .any base t v := hval0
  have hA : DataW.TrodAll enc Try.prog W 0 (fun _ => true) true Try.f8.params.toList args.toList ds p := hA0
  rw [Try.params8] at hA hval
  obtain ⟨v0, d0, rfl, rfl, h0⟩ := trodAll_one hA
  obtain ⟨A0, n0, cap0, l0, rfl, hrow0, hnc0, hcm0⟩ := open_bytes Try.underlying22 Try.underlying5 Try.cells5 (hval 0 22 v0 rfl rfl) h0
  exact puts_walk A0 n0 cap0 l0 W hrow0 hnc0 hcm0

theorem crcPuts_holds : Rows.CrcPutsSaid :=
  OpenClaim.holds_of_wide 8 Try.f8 rfl rfl rfl rfl rfl rfl rfl ⟨rfl, rfl, rfl, rfl, rfl⟩ rfl rfl rfl rfl rfl (by kernel_rfl) Try.func8 (by kernel_rfl)
    (of_decide_eq_true (by kernel_rfl)) (by unfold Func.isWrapper; rw [if_neg (of_decide_eq_false (by kernel_rfl))]; exact ⟨rfl, rfl⟩)
    (fun os started H enc _ => crcPuts_lifted os started H enc)
end Go.Proofs.Ytcnjhpbakommbaa
