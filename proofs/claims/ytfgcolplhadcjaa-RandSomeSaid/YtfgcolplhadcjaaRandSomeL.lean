/- RandSome: so many different ones, rising, each in its bounds; of the same two numbers the same ones. For every input, no condition. -/
import Derived.Test.YtfgcolplhadcjaaRows
import Derived.Test.YtfgcolplhadcjaaRandTot
import Derived.Test.YtfgcolplhadcjaaLaw
import Derived.Deep.DeepCutAuto
namespace Go.Proofs.Ytfgcolplhadcjaa
open Go.ChangeShapes Go.WideShapes Go.ChangeAt Go.RowKit
open RdM
theorem getD_some (n : Nat) (x : Int) (K i : Nat) (h : i < (some_ n x K).length) : (some_ n x K).getD i 0 = (some_ n x K)[i] := by simp [List.getD, h]
set_option maxRecDepth 100000 in
set_option maxHeartbeats 3200000 in
theorem someL_walk (a : Nat) (ha : a < 2 ^ 32) (b : Nat) (hb : b < 2 ^ 32) (n0 : Int) (_ : -9223372036854775808 ≤ n0) (_ : n0 ≤ 9223372036854775807) (k0 : Int) (_ : -9223372036854775808 ≤ k0) (_ : k0 ≤ 9223372036854775807) (w : World) :
    Calls Try.prog 4 #[.int .u32 (a : Int), .int .u32 (b : Int), .int .i64 n0, .int .i64 k0] w fun e w' => e = .returned (.bool true) ∧ Below w.heap.size w w' := by
  have HN := Lib.hid (fun w => new_any (a : Int) (b : Int) (by omega) (by omega) (by omega) (by omega) w)
  obtain ⟨n, hn, hnp⟩ := pick_in n0 257 (by omega) (by omega)
  obtain ⟨k, hk, hkp⟩ := pick_in k0 300 (by omega) (by omega)
  have hn2 : n ≤ 256 := by omega
  have HNP := Lib.hid hnp
  have HKP := Lib.hid hkp
  obtain ⟨K, hK⟩ : ∃ K, kk n k = K := ⟨_, rfl⟩
  have hKm : min (n : Int) (k : Int) = (K : Int) := by rw [← hK, kk_nat]; omega
  have hKn : K ≤ n := by rw [← hK, kk_nat]; omega
  have HK := Lib.hid hK
  clear ha hb hnp hkp hK hn hk
  generalize hX : seed (a : Int) (b : Int) = x at *
  have HX := Lib.hid hX
  clear hX
  go_enter Try.func4, Try.ntmps4
  go_upto_region 2 with fail
  rw [HNP.out, HKP.out]
  go_wp2_with fail
  refine (HN.out w).mono ?_
  rintro e w1 ⟨rfl, hs1, hb1, hz1⟩
  rw [HX.out] at hs1
  have HS1 := Lib.hid hs1
  clear hz1 hs1
  go_wp2_with fail
  refine (some_tot _ n x k w1 HS1.out hn2 K HK.out).mono ?_
  rintro e w2 ⟨A, c, rfl, hrow, hs2, hbt⟩
  have hb2 : Below w.heap.size w w2 := hb1.trans (hbt.out.below (Nat.le_refl _) hb1.size)
  clear hbt hs2 HS1
  have hne : ((K : Int) != (K : Int)) = false := by simp
  go_wp2_with fail
  refine (HN.out w2).mono ?_
  rintro e w3 ⟨rfl, hs3, hb3, hz3⟩
  rw [HX.out] at hs3
  have HS3 := Lib.hid hs3
  clear hz3 hs3
  go_wp2_with fail
  refine (some_tot _ n x k w3 HS3.out hn2 K HK.out).mono ?_
  rintro e w4 ⟨A4, c4, rfl, hrow4, hs4, hbt4⟩
  have hb24 : Below w2.heap.size w2 w4 := hb3.trans (hbt4.out.below (Nat.le_refl _) hb3.size)
  clear hbt4 hs4 HS3
  go_wp2_with fail
  refine (same_any w2.heap.size w4.heap.size K c c4 A A4 (some_ n x K) w4 (hrow.out.below hb24) hrow4.out (by omega)).mono ?_
  rintro e w5 ⟨rfl, hb5⟩
  have hb25 : Below w2.heap.size w2 w5 := hb24.trans (hb5.mono hb24.size)
  have hbw5 : Below w.heap.size w w5 := hb2.trans (hb25.mono hb2.size)
  have hrow5 := Lib.hid (hrow.out.below hb25)
  clear hrow hrow4 hb24 hb5
  go_wp2_with fail
  have HLN := Lib.hid (some_length n x K hKn)
  go_loopw [45] (fun z wr => ∃ i : Nat, i ≤ K ∧ z = .int .i64 i ∧ w5 = wr) (fun z _ => K - (intOf z).toNat)
  case atStart => exact ⟨0, by omega, rfl, rfl⟩
  case round =>
    obtain ⟨i, hi, rfl, rfl⟩ := hrel
    by_cases hlt : i < K
    · obtain ⟨b1, o1, rfl, _, hc1⟩ := hrow5.out.cellAt hlt (iv_get (some_ n x K) i (by rw [HLN.out]; exact hlt))
      have hmem := (some_sub n (by omega) x K hKn).2 ((some_ n x K)[i]'(by rw [HLN.out]; exact hlt)) (List.getElem_mem _)
      rw [← getD_some n x K i (by rw [HLN.out]; exact hlt)] at hmem
      obtain ⟨hv0, hv1⟩ := hmem
      by_cases hi0 : i = 0
      · subst hi0
        rw [Nat.add_zero] at hc1
        generalize (some_ n x K).getD 0 0 = v at *
        go_wp2_with fail
        go_roundw
        case rel => exact ⟨0 + 1, by omega, by go_num, trivial⟩
        case measure => simp [intOf]; omega
      · obtain ⟨p, rfl⟩ : ∃ p, i = p + 1 := ⟨i - 1, by omega⟩
        obtain ⟨b2, o2, e2, _, hc2⟩ := hrow5.out.cellAt (k := p) (by omega) (iv_get (some_ n x K) p (by rw [HLN.out]; omega))
        injection e2 with e2
        injection e2 with e3 e4
        subst e3 e4
        have hris := some_rises n (by omega) x K hKn p (by rw [HLN.out]; exact hlt)
        rw [← getD_some n x K p (by rw [HLN.out]; omega), ← getD_some n x K (p + 1) (by rw [HLN.out]; exact hlt)] at hris
        generalize (some_ n x K).getD (p + 1) 0 = v at *
        generalize (some_ n x K).getD p 0 = u at *
        have hpi : (0 : Int) < (p : Int) + 1 := by omega
        have hpk : (p : Int) < (K : Int) := by omega
        have hpk1 : (p : Int) + 1 < (K : Int) := by omega
        go_wp2_with fail
        go_roundw
        case rel => exact ⟨p + 1 + 1, by omega, by go_num, trivial⟩
        case measure => simp [intOf]; omega
    · obtain rfl : K = i := by omega
      go_wp2_with fail
      refine (awake4_any w5).mono ?_
      rintro e w6 ⟨rfl, hb6⟩
      go_wp2_with fail
      go_ret
      exact ⟨rfl, hbw5.trans (hb6.mono hbw5.size)⟩

set_option maxRecDepth 100000 in
theorem randSome_lifted (os : Os) (started : os.Started) (H : Type) (enc : TypeId × Value → H) :
    ReturnsInHanded {} Try.checked os 4 .any (Rows.randSomeSpec.pre6 enc Try.prog Try.f4 Rows.randSomeRow.domain false) (Rows.randSomeSpec.post enc Try.prog Try.f4 false true false false) := by
  refine law_lift (C := Try.checked) (tb := 4) Try.own started (by kernel_rfl) Try.func4
    (ChangeSpec.witness6 (enc := enc) (C := Try.checked) false ⟨#[], #[.int .u32 0, .int .u32 0, .int .i64 0, .int .i64 0], []⟩ 8 (by kernel_rfl) (by kernel_rfl) (by kernel_rfl) (by kernel_rfl)) Try.laidOut (by kernel_rfl) rfl rfl Try.underlying4 ?_ ?_
  · intro ds hds
    match ds, hds with
    | [_, _, _, _], _ => rfl
  intro W base args ds p hval0 hA0 _ _ hsz0
  have hval : ∀ (j : Nat) t v, Try.f4.params[j]? = some t → args[j]? = some v → Value.okWide Try.prog W .any base t v := hval0
  have hA : DataW.TrodAll enc Try.prog W 0 (fun _ => true) true Try.f4.params.toList args.toList ds p := hA0
  rw [Try.params4] at hA hval
  obtain ⟨v0, vs0, d0, ds0, p0, q0, hargs0, hds0, hps0, h0, r0⟩ := trodAll_cons hA
  obtain ⟨v1, vs1, d1, ds1, p1, q1, hargs1, hds1, hps1, h1, r1⟩ := trodAll_cons r0
  obtain ⟨v2, vs2, d2, ds2, p2, q2, hargs2, hds2, hps2, h2, r2⟩ := trodAll_cons r1
  obtain ⟨v3, vs3, d3, ds3, p3, q3, hargs3, hds3, hps3, h3, r3⟩ := trodAll_cons r2
  obtain ⟨e1, _, _⟩ := trodAll_nil r3
  obtain rfl : args = #[v0, v1, v2, v3] := by cases args; simp_all
  obtain ⟨x0, rfl, hx0⟩ := open_u32 Try.underlying25 (hval 0 25 v0 rfl rfl) h0
  obtain ⟨x1, rfl, hx1⟩ := open_u32 Try.underlying25 (hval 1 25 v1 rfl rfl) h1
  obtain ⟨x2, rfl, hx2, hy2⟩ := open_i64 Try.underlying3 (hval 2 3 v2 rfl rfl) h2
  obtain ⟨x3, rfl, hx3, hy3⟩ := open_i64 Try.underlying3 (hval 3 3 v3 rfl rfl) h3
  exact someL_walk x0 hx0 x1 hx1 x2 hx2 hy2 x3 hx3 hy3 W 

theorem randSome_holds : Rows.RandSomeSaid :=
  OpenClaim.holds_of_wide 4 Try.f4 rfl rfl rfl rfl rfl rfl rfl ⟨rfl, rfl, rfl, rfl, rfl⟩ rfl rfl rfl rfl rfl (by kernel_rfl) Try.func4 (by kernel_rfl)
    (of_decide_eq_true (by kernel_rfl)) (by unfold Func.isWrapper; rw [if_neg (of_decide_eq_false (by kernel_rfl))]; exact ⟨rfl, rfl⟩)
    (fun os started H enc _ => randSome_lifted os started H enc)
end Go.Proofs.Ytfgcolplhadcjaa
