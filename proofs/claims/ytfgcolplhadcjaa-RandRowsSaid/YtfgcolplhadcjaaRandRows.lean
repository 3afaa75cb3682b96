/- RandRows: what is asked of a source goes on: Some takes as many numbers as it has places. For every input, no condition. -/
import Derived.Test.YtfgcolplhadcjaaRows
import Derived.Test.YtfgcolplhadcjaaRandTot
import Derived.Test.YtfgcolplhadcjaaLaw
import Derived.Deep.DeepCutAuto
namespace Go.Proofs.Ytfgcolplhadcjaa
open Go.ChangeShapes Go.WideShapes Go.ChangeAt Go.RowKit
open RdM
set_option maxRecDepth 100000 in
set_option maxHeartbeats 3200000 in
theorem rows_walk (a : Nat) (ha : a < 2 ^ 32) (b : Nat) (hb : b < 2 ^ 32) (n0 : Int) (_ : -9223372036854775808 ≤ n0) (_ : n0 ≤ 9223372036854775807) (k0 : Int) (_ : -9223372036854775808 ≤ k0) (_ : k0 ≤ 9223372036854775807) (w : World) :
    Calls Try.prog 6 #[.int .u32 (a : Int), .int .u32 (b : Int), .int .i64 n0, .int .i64 k0] w fun e w' => e = .returned (.bool true) ∧ Below w.heap.size w w' := by
  have HN := Lib.hid (fun w => new_any (a : Int) (b : Int) (by omega) (by omega) (by omega) (by omega) w)
  obtain ⟨n, hn, hnp⟩ := pick_in n0 257 (by omega) (by omega)
  obtain ⟨k, hk, hkp⟩ := pick_in k0 300 (by omega) (by omega)
  have hn2 : n ≤ 256 := by omega
  have HNP := Lib.hid hnp
  have HKP := Lib.hid hkp
  obtain ⟨K, hK⟩ : ∃ K, kk n k = K := ⟨_, rfl⟩
  have hKm : min (n : Int) (k : Int) = (K : Int) := by rw [← hK, kk_nat]; omega
  have hKn : K ≤ n := by rw [← hK, kk_nat]; omega
  have HK := Lib.hid hK
  clear ha hb hnp hkp hK hn hk
  generalize hX : seed (a : Int) (b : Int) = x at *
  have HX := Lib.hid hX
  clear hX
  go_enter Try.func6, Try.ntmps6
  go_upto_region 2 with fail
  rw [HNP.out, HKP.out]
  go_wp2_with fail
  refine (HN.out w).mono ?_
  rintro e w1 ⟨rfl, hs1, hb1, hz1⟩
  rw [HX.out] at hs1
  go_wp2_with fail
  refine (HN.out w1).mono ?_
  rintro e w2 ⟨rfl, ht2, hb2, hz2⟩
  rw [HX.out] at ht2
  have HS2 := Lib.hid (hs1.below hb2 hs1.lt)
  have HT2 := Lib.hid ht2
  obtain ⟨gs, hgs⟩ : ∃ gs, gs = w.heap.size := ⟨_, rfl⟩
  obtain ⟨gt, hgt⟩ : ∃ gt, gt = w1.heap.size := ⟨_, rfl⟩
  have hlt2 := hs1.lt
  have hlt3 := ht2.lt
  have hbw2 : Below w.heap.size w w2 := hb1.trans (hb2.mono hb1.size)
  rw [← hgs] at HS2 hlt2 ⊢
  rw [← hgt] at HT2 hlt2 hlt3 ⊢
  have hgw : w.heap.size ≤ gs := by omega
  have hgw2 : w.heap.size ≤ gt := by omega
  clear hs1 ht2 hb1 hb2 hz1 hz2 hgs hgt
  go_wp2_with fail
  refine (some_tot gs n x k w2 HS2.out hn2 K HK.out).mono ?_
  rintro e w3 ⟨A, c, rfl, hrow, hs3, hbt⟩
  have HT3 := Lib.hid (hbt.out.other HT2.out (by omega) hlt3)
  have hbw3 : Below w.heap.size w w3 := hbw2.trans (hbt.out.below hgw hbw2.size)
  clear hrow hbt HS2 HT2 hbw2
  have hlt4 := HT3.out.lt
  have hlt5 := hs3.out.lt
  go_wp2_with fail
  go_loopw [32] (fun z wr => ∃ i : Nat, i ≤ K ∧ z = .int .i64 i ∧ Hid (Src wr gs (shk x K)) ∧ Hid (Src wr gt (shk x i)) ∧ Hid (Below w.heap.size w wr)) (fun z _ => K - (intOf z).toNat)
  case atStart => exact ⟨0, by omega, rfl, hs3, HT3, hbw3⟩
  case round =>
    obtain ⟨i, hi, rfl, hsS, hsT, hbB⟩ := hrel
    clear hs3 HT3 hbw3
    by_cases hlt : i < K
    · go_wp2_with fail
      refine (next_any gt (shk x i) wr hsT.out).mono ?_
      rintro e w5 ⟨rfl, hs5, hb5, hz5⟩
      have hsS5 : Hid (Src w5 gs (shk x K)) := hb5.other hsS.out (by omega) hsS.out.lt
      have hsT5 : Hid (Src w5 gt (shk x (i + 1))) := hs5
      have hbB5 : Hid (Below w.heap.size w w5) := hbB.out.trans (hb5.below hgw2 hbB.out.size)
      clear hs5 hb5 hz5 hsS hsT hbB
      go_wp2_with fail
      go_roundw
      case rel => exact ⟨i + 1, by omega, by go_num, hsS5, hsT5, hbB5⟩
      case measure => simp [intOf]; omega
    · obtain rfl : K = i := by omega
      generalize shk x K = y at *
      go_wp2_with fail
      refine (next_any gs y wr hsS.out).mono ?_
      rintro e w5 ⟨rfl, hs5, hb5, hz5⟩
      have hsT5 : Hid (Src w5 gt y) := hb5.other hsT.out (by omega) hsT.out.lt
      have hbB5 : Hid (Below w.heap.size w w5) := hbB.out.trans (hb5.below hgw hbB.out.size)
      have HS5 := Lib.hid hs5
      clear hs5 hb5 hz5 hsS hsT hbB
      go_wp2_with fail
      refine (next_any gt y w5 hsT5.out).mono ?_
      rintro e w6 ⟨rfl, hs6, hb6, hz6⟩
      have HS6 : Hid (Src w6 gs (sh y)) := hb6.other HS5.out (by omega) HS5.out.lt
      have hbB6 : Hid (Below w.heap.size w w6) := hbB5.out.trans (hb6.below hgw2 hbB5.out.size)
      have HT6 := Lib.hid hs6
      clear hs6 hb6 hz6 hsT5 hbB5 HS5
      generalize hY : sh y = y1 at *
      have hY' := Lib.hid hY
      clear hY
      go_wp2_with fail
      refine (next_any gs y1 w6 HS6.out).mono ?_
      rintro e w7 ⟨rfl, hs7, hb7, hz7⟩
      have hsT7 : Hid (Src w7 gt y1) := hb7.other HT6.out (by omega) HT6.out.lt
      have hbB7 : Hid (Below w.heap.size w w7) := hbB6.out.trans (hb7.below hgw hbB6.out.size)
      clear hs7 hb7 hz7 HS6 HT6 hbB6
      go_wp2_with fail
      refine (next_any gt y1 w7 hsT7.out).mono ?_
      rintro e w8 ⟨rfl, hs8, hb8, hz8⟩
      have hbB8 : Hid (Below w.heap.size w w8) := hbB7.out.trans (hb8.below hgw2 hbB7.out.size)
      clear hs8 hb8 hz8 hsT7 hbB7
      go_wp2_with fail
      refine (awake4_any w8).mono ?_
      rintro e w9 ⟨rfl, hb9⟩
      go_wp2_with fail
      go_ret
      exact ⟨rfl, hbB8.out.trans (hb9.mono hbB8.out.size)⟩

set_option maxRecDepth 100000 in
theorem randRows_lifted (os : Os) (started : os.Started) (H : Type) (enc : TypeId × Value → H) :
    ReturnsInHanded {} Try.checked os 6 .any (Rows.randRowsSpec.pre6 enc Try.prog Try.f6 Rows.randRowsRow.domain false) (Rows.randRowsSpec.post enc Try.prog Try.f6 false true false false) := by
  refine law_lift (C := Try.checked) (tb := 4) Try.own started (by kernel_rfl) Try.func6
    (ChangeSpec.witness6 (enc := enc) (C := Try.checked) false ⟨#[], #[.int .u32 0, .int .u32 0, .int .i64 0, .int .i64 0], []⟩ 8 (by kernel_rfl) (by kernel_rfl) (by kernel_rfl) (by kernel_rfl)) Try.laidOut (by kernel_rfl) rfl rfl Try.underlying4 ?_ ?_
  · intro ds hds
    match ds, hds with
    | [_, _, _, _], _ => rfl
  intro W base args ds p hval0 hA0 _ _ hsz0
  have hval : ∀ (j : Nat) t v, Try.f6.params[j]? = some t → args[j]? = some v → Value.okWide Try.prog W .any base t v := hval0
  have hA : DataW.TrodAll enc Try.prog W 0 (fun _ => true) true Try.f6.params.toList args.toList ds p := hA0
  rw [Try.params6] at hA hval
  obtain ⟨v0, vs0, d0, ds0, p0, q0, hargs0, hds0, hps0, h0, r0⟩ := trodAll_cons hA
  obtain ⟨v1, vs1, d1, ds1, p1, q1, hargs1, hds1, hps1, h1, r1⟩ := trodAll_cons r0
  obtain ⟨v2, vs2, d2, ds2, p2, q2, hargs2, hds2, hps2, h2, r2⟩ := trodAll_cons r1
  obtain ⟨v3, vs3, d3, ds3, p3, q3, hargs3, hds3, hps3, h3, r3⟩ := trodAll_cons r2
  obtain ⟨e1, _, _⟩ := trodAll_nil r3
  obtain rfl : args = #[v0, v1, v2, v3] := by cases args; simp_all
  obtain ⟨x0, rfl, hx0⟩ := open_u32 Try.underlying25 (hval 0 25 v0 rfl rfl) h0
  obtain ⟨x1, rfl, hx1⟩ := open_u32 Try.underlying25 (hval 1 25 v1 rfl rfl) h1
  obtain ⟨x2, rfl, hx2, hy2⟩ := open_i64 Try.underlying3 (hval 2 3 v2 rfl rfl) h2
  obtain ⟨x3, rfl, hx3, hy3⟩ := open_i64 Try.underlying3 (hval 3 3 v3 rfl rfl) h3
  exact rows_walk x0 hx0 x1 hx1 x2 hx2 hy2 x3 hx3 hy3 W 

theorem randRows_holds : Rows.RandRowsSaid :=
  OpenClaim.holds_of_wide 6 Try.f6 rfl rfl rfl rfl rfl rfl rfl ⟨rfl, rfl, rfl, rfl, rfl⟩ rfl rfl rfl rfl rfl (by kernel_rfl) Try.func6 (by kernel_rfl)
    (of_decide_eq_true (by kernel_rfl)) (by unfold Func.isWrapper; rw [if_neg (of_decide_eq_false (by kernel_rfl))]; exact ⟨rfl, rfl⟩)
    (fun os started H enc _ => randRows_lifted os started H enc)
end Go.Proofs.Ytfgcolplhadcjaa
