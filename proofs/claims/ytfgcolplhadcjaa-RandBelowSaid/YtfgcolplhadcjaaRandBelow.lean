/- RandBelow: each number is below n; of one it is nothing; two sources go their own ways. For every input, no condition. -/
import Derived.Test.YtfgcolplhadcjaaRows
import Derived.Test.YtfgcolplhadcjaaRandTot
import Derived.Test.YtfgcolplhadcjaaLaw
import Derived.Deep.DeepCutAuto
namespace Go.Proofs.Ytfgcolplhadcjaa
open Go.ChangeShapes Go.WideShapes Go.ChangeAt Go.RowKit
open RdM
set_option maxRecDepth 100000 in
set_option maxHeartbeats 3200000 in
theorem belowL_walk (a : Nat) (ha : a < 2 ^ 32) (b : Nat) (hb : b < 2 ^ 32) (n0 : Int) (_ : -9223372036854775808 ≤ n0) (_ : n0 ≤ 9223372036854775807) (w : World) :
    Calls Try.prog 5 #[.int .u32 (a : Int), .int .u32 (b : Int), .int .i64 n0] w fun e w' => e = .returned (.bool true) ∧ Below w.heap.size w w' := by
  have HN := Lib.hid (fun w => new_any (a : Int) (b : Int) (by omega) (by omega) (by omega) (by omega) w)
  obtain ⟨p, hp, hnp⟩ := pick_in n0 2147483648 (by omega) (by omega)
  have HNP := Lib.hid hnp
  have hw1 : wrap64 (1 + (p : Int)) = 1 + (p : Int) := IntWalk.wrap64_in _ ⟨by omega, by omega⟩
  have HW1 := Lib.hid hw1
  obtain ⟨n, hn⟩ : ∃ n : Int, n = 1 + (p : Int) := ⟨_, rfl⟩
  have hn1 : 1 ≤ n := by omega
  have hn2 : n ≤ 2147483648 := by omega
  have HN2 := Lib.hid hn2
  have HNE := Lib.hid hn.symm
  clear ha hb hnp hw1 hn hp hn2
  generalize hX : seed (a : Int) (b : Int) = x at *
  have HX := Lib.hid hX
  clear hX
  go_enter Try.func5, Try.ntmps5
  go_upto_region 2 with fail
  rw [HNP.out, HW1.out, HNE.out]
  go_wp2_with fail
  refine (HN.out w).mono ?_
  rintro e w1 ⟨rfl, hs1, hb1, hz1⟩
  rw [HX.out] at hs1
  go_wp2_with fail
  refine (HN.out w1).mono ?_
  rintro e w2 ⟨rfl, ht2, hb2, hz2⟩
  rw [HX.out] at ht2
  have HS2 : Hid (Src w2 w.heap.size (shk x 0)) := hs1.below hb2 hs1.lt
  have HT2 : Hid (Src w2 w1.heap.size (shk x 0)) := ht2
  obtain ⟨gs, hgs⟩ : ∃ gs, gs = w.heap.size := ⟨_, rfl⟩
  obtain ⟨gt, hgt⟩ : ∃ gt, gt = w1.heap.size := ⟨_, rfl⟩
  have hlt2 := hs1.lt
  have hbw2 : Hid (Below w.heap.size w w2) := hb1.trans (hb2.mono hb1.size)
  rw [← hgs] at HS2 hlt2 ⊢
  rw [← hgt] at HT2 hlt2 ⊢
  have hgw : w.heap.size ≤ gs := by omega
  have hgw2 : w.heap.size ≤ gt := by omega
  clear hs1 ht2 hb1 hb2 hz1 hz2 hgs hgt
  go_wp2_with fail
  go_loopw [21] (fun z wr => ∃ i : Nat, i ≤ 20 ∧ z = .int .i64 i ∧ Hid (Src wr gs (shk x i)) ∧ Hid (Src wr gt (shk x i)) ∧ Hid (Below w.heap.size w wr)) (fun z _ => 20 - (intOf z).toNat)
  case atStart => exact ⟨0, by omega, rfl, HS2, HT2, hbw2⟩
  case round =>
    obtain ⟨i, hi, rfl, hsS, hsT, hbB⟩ := hrel
    clear HS2 HT2 hbw2
    by_cases hlt : i < 20
    · have hlti : (i : Int) < 20 := by omega
      have hq := bl_bounds (shk x i) n hn1 HN2.out
      go_wp2_with fail
      refine (below_any gs (shk x i) n wr hsS.out hn1 HN2.out).mono ?_
      rintro e w5 ⟨rfl, hs5, hb5, hz5⟩
      have hsT5 : Hid (Src w5 gt (shk x i)) := hb5.other hsT.out (by omega) hsT.out.lt
      have hbB5 : Hid (Below w.heap.size w w5) := hbB.out.trans (hb5.below hgw hbB.out.size)
      have HS5 : Hid (Src w5 gs (shk x (i + 1))) := hs5
      have HBL : Hid (∀ w, Src w gt (shk x i) → Calls Try.prog 14 #[.pointer (some ⟨gt, 0, none⟩), .int .i64 n] w (NextOk gt (shk x i) w (.int .i64 (bl (shk x i) n)))) := fun w hs => below_any gt (shk x i) n w hs hn1 HN2.out
      clear hs5 hb5 hz5 hsS hsT hbB
      generalize bl (shk x i) n = q at *
      obtain ⟨hq0, hq1⟩ := hq
      go_wp2_with fail
      refine (HN.out w5).mono ?_
      rintro e w6 ⟨rfl, hs6, hb6, hz6⟩
      have HS6 := Lib.hid (HS5.out.below hb6 HS5.out.lt)
      have HT6 := Lib.hid (hsT5.out.below hb6 hsT5.out.lt)
      have hbB6 : Hid (Below w.heap.size w w6) := hbB5.out.trans (hb6.mono hbB5.out.size)
      have hlts := HS5.out.lt
      have hltt := hsT5.out.lt
      obtain ⟨g6, hg6⟩ : ∃ g6, g6 = w5.heap.size := ⟨_, rfl⟩
      have HG6 : Hid (w.heap.size ≤ g6) := by rw [hg6]; exact hbB5.out.size
      have hgs6 : gs ≠ g6 := by omega
      have hgt6 : gt ≠ g6 := by omega
      have HR6 := Lib.hid hs6
      rw [← hg6] at HR6 ⊢
      have HGS6 := Lib.hid hgs6
      have HGT6 := Lib.hid hgt6
      clear hs6 hb6 hz6 HS5 hsT5 hbB5 hg6 hgs6 hgt6 hlts hltt
      go_wp2_with fail
      refine (next_any g6 _ w6 HR6.out).mono ?_
      rintro e w7 ⟨rfl, hs7, hb7, hz7⟩
      have HS7 : Hid (Src w7 gs (shk x (i + 1))) := hb7.other HS6.out HGS6.out HS6.out.lt
      have HT7 : Hid (Src w7 gt (shk x i)) := hb7.other HT6.out HGT6.out HT6.out.lt
      have hbB7 : Hid (Below w.heap.size w w7) := hbB6.out.trans (hb7.below HG6.out hbB6.out.size)
      clear hs7 hb7 hz7 HS6 HT6 hbB6 HR6
      go_wp2_with fail
      refine (HBL.out w7 HT7.out).mono ?_
      rintro e w8 ⟨rfl, hs8, hb8, hz8⟩
      have HS8 : Hid (Src w8 gs (shk x (i + 1))) := hb8.other HS7.out (by omega) HS7.out.lt
      have HT8 : Hid (Src w8 gt (shk x (i + 1))) := hs8
      have hbB8 : Hid (Below w.heap.size w w8) := hbB7.out.trans (hb8.below hgw2 hbB7.out.size)
      clear hs8 hb8 hz8 HS7 HT7 hbB7
      go_wp2_with fail
      go_roundw
      case rel => exact ⟨i + 1, by omega, by go_num, HS8, HT8, hbB8⟩
      case measure => simp [intOf]; omega
    · obtain rfl : i = 20 := by omega
      have hlti : ¬ ((20 : Nat) : Int) < 20 := by omega
      obtain ⟨hq0, hq1⟩ := bl_bounds (shk x 20) 1 (by omega) (by omega)
      generalize hq : bl (shk x 20) 1 = q at *
      obtain rfl : q = 0 := by omega
      have HQ := Lib.hid hq
      clear hq hq0 hq1
      go_wp2_with fail
      refine (below_any gs (shk x 20) 1 wr hsS.out (by omega) (by omega)).mono ?_
      rw [HQ.out]
      rintro e w5 ⟨rfl, hs5, hb5, hz5⟩
      have hbB5 : Hid (Below w.heap.size w w5) := hbB.out.trans (hb5.below hgw hbB.out.size)
      clear hs5 hb5 hz5 hsS hsT hbB
      go_wp2_with fail
      refine (below_out gs 0 w5 (by omega)).mono ?_
      rintro e w6 ⟨rfl, rfl⟩
      go_wp2_with fail
      refine (below_out gs _ w5 (.inl (by have := HN2.out; rw [IntWalk.wrap64_in _ ⟨by omega, by omega⟩]; omega))).mono ?_
      rintro e w6 ⟨rfl, rfl⟩
      go_wp2_with fail
      refine (awake4_any w5).mono ?_
      rintro e w9 ⟨rfl, hb9⟩
      go_wp2_with fail
      go_ret
      exact ⟨rfl, hbB5.out.trans (hb9.mono hbB5.out.size)⟩

set_option maxRecDepth 100000 in
theorem randBelow_lifted (os : Os) (started : os.Started) (H : Type) (enc : TypeId × Value → H) :
    ReturnsInHanded {} Try.checked os 5 .any (Rows.randBelowSpec.pre6 enc Try.prog Try.f5 Rows.randBelowRow.domain false) (Rows.randBelowSpec.post enc Try.prog Try.f5 false true false false) := by
  refine law_lift (C := Try.checked) (tb := 4) Try.own started (by kernel_rfl) Try.func5
    (ChangeSpec.witness6 (enc := enc) (C := Try.checked) false ⟨#[], #[.int .u32 0, .int .u32 0, .int .i64 0], []⟩ 8 (by kernel_rfl) (by kernel_rfl) (by kernel_rfl) (by kernel_rfl)) Try.laidOut (by kernel_rfl) rfl rfl Try.underlying4 ?_ ?_
  · intro ds hds
    match ds, hds with
    | [_, _, _], _ => rfl
  intro W base args ds p hval0 hA0 _ _ hsz0
  have hval : ∀ (j : Nat) t v, Try.f5.params[j]? = some t → args[j]? = some v → Value.okWide Try.prog W .any base t v := hval0
  have hA : DataW.TrodAll enc Try.prog W 0 (fun _ => true) true Try.f5.params.toList args.toList ds p := hA0
  rw [Try.params5] at hA hval
  obtain ⟨v0, v1, v2, d0, d1, d2, p0, p1, p2, rfl, rfl, rfl, h0, h1, h2⟩ := trodAll_three hA
  obtain ⟨x0, rfl, hx0⟩ := open_u32 Try.underlying25 (hval 0 25 v0 rfl rfl) h0
  obtain ⟨x1, rfl, hx1⟩ := open_u32 Try.underlying25 (hval 1 25 v1 rfl rfl) h1
  obtain ⟨x2, rfl, hx2, hy2⟩ := open_i64 Try.underlying3 (hval 2 3 v2 rfl rfl) h2
  exact belowL_walk x0 hx0 x1 hx1 x2 hx2 hy2 W 

theorem randBelow_holds : Rows.RandBelowSaid :=
  OpenClaim.holds_of_wide 5 Try.f5 rfl rfl rfl rfl rfl rfl rfl ⟨rfl, rfl, rfl, rfl, rfl⟩ rfl rfl rfl rfl rfl (by kernel_rfl) Try.func5 (by kernel_rfl)
    (of_decide_eq_true (by kernel_rfl)) (by unfold Func.isWrapper; rw [if_neg (of_decide_eq_false (by kernel_rfl))]; exact ⟨rfl, rfl⟩)
    (fun os started H enc _ => randBelow_lifted os started H enc)
end Go.Proofs.Ytfgcolplhadcjaa
