/- SolitonRises: a greater number is no lesser degree; each is one of the pieces; asked again it is the same. For every input, no condition. -/
import Derived.Test.YtfgcolplhadcjaaRows
import Derived.Test.YtfgcolplhadcjaaSolAwake
import Derived.Test.YtfgcolplhadcjaaLaw
import Derived.Deep.DeepCutAuto
namespace Go.Proofs.Ytfgcolplhadcjaa
open Go.ChangeShapes Go.WideShapes Go.ChangeAt Go.RowKit
open SoM
theorem atx_mono (n x y : Nat) (h : x ≤ y) : atx n x ≤ atx n y := by
  unfold atx
  exact Nat.div_le_div_right (Nat.mul_le_mul_right _ h)
theorem atx_zero (n : Nat) : atx n 0 = 0 := by simp [atx]
theorem deg_zero (n d : Nat) (h1 : 1 ≤ n) (h2 : n ≤ 80) (h : IsDeg n (atx n 0) d) : d = 1 := by
  obtain ⟨_, _, _, _, _, _, h7⟩ := wt_bound n 1 h1 h2 (Nat.le_refl _) h1
  rw [atx_zero] at h
  exact h.uniq ⟨Nat.le_refl _, h1, by simp [sm], h7⟩
set_option maxRecDepth 100000 in
set_option maxHeartbeats 3200000 in
theorem srises_lt (n0 : Int) (_ : -9223372036854775808 ≤ n0) (_ : n0 ≤ 9223372036854775807) (x0 : Int) (hx0 : 0 ≤ x0) (hx1 : x0 ≤ 4294967295) (y0 : Int) (hy0 : 0 ≤ y0) (hy1 : y0 ≤ 4294967295) (hc : y0 < x0) (w : World) :
    Calls Try.prog 9 #[.int .i64 n0, .int .u32 x0, .int .u32 y0] w fun e w' => e = .returned (.bool true) ∧ Below w.heap.size w w' := by
  obtain ⟨p, hp, hnp⟩ := pick_in n0 80 (by omega) (by omega)
  obtain ⟨n, hn⟩ : ∃ n : Nat, n = p + 1 := ⟨_, rfl⟩
  have h1 : 1 ≤ n := by omega
  have h2 : n ≤ 80 := by omega
  have hw1 : wrap64 (1 + (p : Int)) = (n : Int) := by rw [IntWalk.wrap64_in _ ⟨by omega, by omega⟩]; omega
  have HNP := Lib.hid hnp
  have HW1 := Lib.hid hw1
  clear hnp hw1 hp hn
  obtain ⟨x, rfl⟩ : ∃ x : Nat, x0 = (x : Int) := ⟨x0.toNat, by omega⟩
  obtain ⟨y, rfl⟩ : ∃ y : Nat, y0 = (y : Int) := ⟨y0.toNat, by omega⟩
  have hnew := Lib.hid (new_in n w h1 h2)
  have hnew4 := Lib.hid (fun w => new_in n w h1 h2)
  have hx2 : x < 4294967296 := by omega
  have hy2 : y < 4294967296 := by omega
  clear hx0 hx1 hy0 hy1
  have hc1 : (y : Int) < (x : Int) := by omega
  have hc2 : ¬ (x : Int) < (y : Int) := by omega
  have hc3 : ¬ x < y := by omega
  go_enter Try.func9, Try.ntmps9
  go_upto_region 2 with fail
  rw [HNP.out, HW1.out]
  clear HNP HW1
  go_wp2_with fail
  refine hnew.out.mono ?_
  rintro e w1 ⟨rfl, hT1, hb1⟩
  go_wp2_with fail
  refine (degree_first w.heap.size n y w1 hT1.out h1 h2 hy2).mono ?_
  rintro e w2 ⟨d1, rfl, hd1, hF2, hbt2⟩
  have hB2 : Hid (Below w.heap.size w w2) := hb1.out.trans (hbt2.out.below (Nat.le_refl _) hb1.out.size)
  go_wp2_with fail
  refine (degree_again w.heap.size n x w2 hF2.out h1 h2 hx2).mono ?_
  rintro e w3 ⟨d2, rfl, hd2, hF3, hbt3⟩
  have hB3 : Hid (Below w.heap.size w w3) := hB2.out.trans (hbt3.out.below (Nat.le_refl _) hB2.out.size)
  clear hT1 hb1 hbt2 hB2 hF2 hbt3
  have c1 : (1 : Int) ≤ (d1 : Int) := by have := hd1.out.1; omega
  have c2 : (d1 : Int) ≤ (d2 : Int) := by have := hd1.out.mono hd2.out (atx_mono n y x (by omega)); omega
  have c3 : (d2 : Int) ≤ (n : Int) := by have := hd2.out.2.1; omega
  go_wp2_with fail
  refine (degree_again w.heap.size n y w3 hF3.out h1 h2 hy2).mono ?_
  rintro e w4 ⟨d3, rfl, hd3, hF4, hbt4⟩
  obtain rfl := hd3.out.uniq hd1.out
  have hB4 : Hid (Below w.heap.size w w4) := hB3.out.trans (hbt4.out.below (Nat.le_refl _) hB3.out.size)
  clear hbt4 hB3 hF3 hd3
  go_wp2_with fail
  refine (hnew4.out w4).mono ?_
  rintro e w5 ⟨rfl, hT5, hb5⟩
  go_wp2_with fail
  refine (degree_first w4.heap.size n x w5 hT5.out h1 h2 hx2).mono ?_
  rintro e w6 ⟨d4, rfl, hd4, _, hbt6⟩
  obtain rfl := hd4.out.uniq hd2.out
  have hB46 : Hid (Below w4.heap.size w4 w6) := hb5.out.trans (hbt6.out.below (Nat.le_refl _) hb5.out.size)
  have hF6 : Hid (Full w6 w.heap.size n) := hF4.out.below hB46.out
  have hB6 : Hid (Below w.heap.size w w6) := hB4.out.trans (hB46.out.mono hB4.out.size)
  clear hbt6 hB46 hF4 hd4 hT5 hb5 hB4
  go_wp2_with fail
  refine (degree_again w.heap.size n 0 w6 hF6.out h1 h2 (by omega)).mono ?_
  rintro e w7 ⟨d5, rfl, hd5, _, hbt7⟩
  obtain rfl := deg_zero n d5 h1 h2 hd5.out
  have hB7 : Hid (Below w.heap.size w w7) := hB6.out.trans (hbt7.out.below (Nat.le_refl _) hB6.out.size)
  clear hbt7 hB6 hF6 hd5
  go_wp2_with fail
  refine (awake7_any w7).mono ?_
  rintro e w8 ⟨rfl, hb8⟩
  go_wp2_with fail
  go_ret
  exact ⟨rfl, hB7.out.trans (hb8.mono hB7.out.size)⟩
set_option maxRecDepth 100000 in
set_option maxHeartbeats 3200000 in
theorem srises_eq (n0 : Int) (_ : -9223372036854775808 ≤ n0) (_ : n0 ≤ 9223372036854775807) (x0 : Int) (hx0 : 0 ≤ x0) (hx1 : x0 ≤ 4294967295) (y0 : Int) (hy0 : 0 ≤ y0) (hy1 : y0 ≤ 4294967295) (hc0 : y0 = x0) (w : World) :
    Calls Try.prog 9 #[.int .i64 n0, .int .u32 x0, .int .u32 y0] w fun e w' => e = .returned (.bool true) ∧ Below w.heap.size w w' := by
  obtain ⟨p, hp, hnp⟩ := pick_in n0 80 (by omega) (by omega)
  obtain ⟨n, hn⟩ : ∃ n : Nat, n = p + 1 := ⟨_, rfl⟩
  have h1 : 1 ≤ n := by omega
  have h2 : n ≤ 80 := by omega
  have hw1 : wrap64 (1 + (p : Int)) = (n : Int) := by rw [IntWalk.wrap64_in _ ⟨by omega, by omega⟩]; omega
  have HNP := Lib.hid hnp
  have HW1 := Lib.hid hw1
  clear hnp hw1 hp hn
  subst hc0
  obtain ⟨x, rfl⟩ : ∃ x : Nat, y0 = (x : Int) := ⟨y0.toNat, by omega⟩
  have hnew := Lib.hid (new_in n w h1 h2)
  have hnew4 := Lib.hid (fun w => new_in n w h1 h2)
  have hx2 : x < 4294967296 := by omega
  clear hx0 hx1
  go_enter Try.func9, Try.ntmps9
  go_upto_region 2 with fail
  rw [HNP.out, HW1.out]
  clear HNP HW1
  go_wp2_with fail
  refine hnew.out.mono ?_
  rintro e w1 ⟨rfl, hT1, hb1⟩
  go_wp2_with fail
  refine (degree_first w.heap.size n x w1 hT1.out h1 h2 hx2).mono ?_
  rintro e w2 ⟨d1, rfl, hd1, hF2, hbt2⟩
  have hB2 : Hid (Below w.heap.size w w2) := hb1.out.trans (hbt2.out.below (Nat.le_refl _) hb1.out.size)
  go_wp2_with fail
  refine (degree_again w.heap.size n x w2 hF2.out h1 h2 hx2).mono ?_
  rintro e w3 ⟨d2, rfl, hd2, hF3, hbt3⟩
  have hB3 : Hid (Below w.heap.size w w3) := hB2.out.trans (hbt3.out.below (Nat.le_refl _) hB2.out.size)
  clear hT1 hb1 hbt2 hB2 hF2 hbt3
  have c1 : (1 : Int) ≤ (d1 : Int) := by have := hd1.out.1; omega
  have c2 : (d1 : Int) ≤ (d2 : Int) := by have := hd1.out.mono hd2.out (atx_mono n x x (by omega)); omega
  have c3 : (d2 : Int) ≤ (n : Int) := by have := hd2.out.2.1; omega
  go_wp2_with fail
  refine (degree_again w.heap.size n x w3 hF3.out h1 h2 hx2).mono ?_
  rintro e w4 ⟨d3, rfl, hd3, hF4, hbt4⟩
  obtain rfl := hd3.out.uniq hd1.out
  have hB4 : Hid (Below w.heap.size w w4) := hB3.out.trans (hbt4.out.below (Nat.le_refl _) hB3.out.size)
  clear hbt4 hB3 hF3 hd3
  go_wp2_with fail
  refine (hnew4.out w4).mono ?_
  rintro e w5 ⟨rfl, hT5, hb5⟩
  go_wp2_with fail
  refine (degree_first w4.heap.size n x w5 hT5.out h1 h2 hx2).mono ?_
  rintro e w6 ⟨d4, rfl, hd4, _, hbt6⟩
  obtain rfl := hd4.out.uniq hd2.out
  have hB46 : Hid (Below w4.heap.size w4 w6) := hb5.out.trans (hbt6.out.below (Nat.le_refl _) hb5.out.size)
  have hF6 : Hid (Full w6 w.heap.size n) := hF4.out.below hB46.out
  have hB6 : Hid (Below w.heap.size w w6) := hB4.out.trans (hB46.out.mono hB4.out.size)
  clear hbt6 hB46 hF4 hd4 hT5 hb5 hB4
  go_wp2_with fail
  refine (degree_again w.heap.size n 0 w6 hF6.out h1 h2 (by omega)).mono ?_
  rintro e w7 ⟨d5, rfl, hd5, _, hbt7⟩
  obtain rfl := deg_zero n d5 h1 h2 hd5.out
  have hB7 : Hid (Below w.heap.size w w7) := hB6.out.trans (hbt7.out.below (Nat.le_refl _) hB6.out.size)
  clear hbt7 hB6 hF6 hd5
  go_wp2_with fail
  refine (awake7_any w7).mono ?_
  rintro e w8 ⟨rfl, hb8⟩
  go_wp2_with fail
  go_ret
  exact ⟨rfl, hB7.out.trans (hb8.mono hB7.out.size)⟩
set_option maxRecDepth 100000 in
set_option maxHeartbeats 3200000 in
theorem srises_gt (n0 : Int) (_ : -9223372036854775808 ≤ n0) (_ : n0 ≤ 9223372036854775807) (x0 : Int) (hx0 : 0 ≤ x0) (hx1 : x0 ≤ 4294967295) (y0 : Int) (hy0 : 0 ≤ y0) (hy1 : y0 ≤ 4294967295) (hc : x0 < y0) (w : World) :
    Calls Try.prog 9 #[.int .i64 n0, .int .u32 x0, .int .u32 y0] w fun e w' => e = .returned (.bool true) ∧ Below w.heap.size w w' := by
  obtain ⟨p, hp, hnp⟩ := pick_in n0 80 (by omega) (by omega)
  obtain ⟨n, hn⟩ : ∃ n : Nat, n = p + 1 := ⟨_, rfl⟩
  have h1 : 1 ≤ n := by omega
  have h2 : n ≤ 80 := by omega
  have hw1 : wrap64 (1 + (p : Int)) = (n : Int) := by rw [IntWalk.wrap64_in _ ⟨by omega, by omega⟩]; omega
  have HNP := Lib.hid hnp
  have HW1 := Lib.hid hw1
  clear hnp hw1 hp hn
  obtain ⟨x, rfl⟩ : ∃ x : Nat, x0 = (x : Int) := ⟨x0.toNat, by omega⟩
  obtain ⟨y, rfl⟩ : ∃ y : Nat, y0 = (y : Int) := ⟨y0.toNat, by omega⟩
  have hnew := Lib.hid (new_in n w h1 h2)
  have hnew4 := Lib.hid (fun w => new_in n w h1 h2)
  have hx2 : x < 4294967296 := by omega
  have hy2 : y < 4294967296 := by omega
  clear hx0 hx1 hy0 hy1
  have hc1 : (x : Int) < (y : Int) := by omega
  have hc2 : ¬ (y : Int) < (x : Int) := by omega
  have hc3 : ¬ y < x := by omega
  go_enter Try.func9, Try.ntmps9
  go_upto_region 2 with fail
  rw [HNP.out, HW1.out]
  clear HNP HW1
  go_wp2_with fail
  refine hnew.out.mono ?_
  rintro e w1 ⟨rfl, hT1, hb1⟩
  go_wp2_with fail
  refine (degree_first w.heap.size n x w1 hT1.out h1 h2 hx2).mono ?_
  rintro e w2 ⟨d1, rfl, hd1, hF2, hbt2⟩
  have hB2 : Hid (Below w.heap.size w w2) := hb1.out.trans (hbt2.out.below (Nat.le_refl _) hb1.out.size)
  go_wp2_with fail
  refine (degree_again w.heap.size n y w2 hF2.out h1 h2 hy2).mono ?_
  rintro e w3 ⟨d2, rfl, hd2, hF3, hbt3⟩
  have hB3 : Hid (Below w.heap.size w w3) := hB2.out.trans (hbt3.out.below (Nat.le_refl _) hB2.out.size)
  clear hT1 hb1 hbt2 hB2 hF2 hbt3
  have c1 : (1 : Int) ≤ (d1 : Int) := by have := hd1.out.1; omega
  have c2 : (d1 : Int) ≤ (d2 : Int) := by have := hd1.out.mono hd2.out (atx_mono n x y (by omega)); omega
  have c3 : (d2 : Int) ≤ (n : Int) := by have := hd2.out.2.1; omega
  go_wp2_with fail
  refine (degree_again w.heap.size n x w3 hF3.out h1 h2 hx2).mono ?_
  rintro e w4 ⟨d3, rfl, hd3, hF4, hbt4⟩
  obtain rfl := hd3.out.uniq hd1.out
  have hB4 : Hid (Below w.heap.size w w4) := hB3.out.trans (hbt4.out.below (Nat.le_refl _) hB3.out.size)
  clear hbt4 hB3 hF3 hd3
  go_wp2_with fail
  refine (hnew4.out w4).mono ?_
  rintro e w5 ⟨rfl, hT5, hb5⟩
  go_wp2_with fail
  refine (degree_first w4.heap.size n y w5 hT5.out h1 h2 hy2).mono ?_
  rintro e w6 ⟨d4, rfl, hd4, _, hbt6⟩
  obtain rfl := hd4.out.uniq hd2.out
  have hB46 : Hid (Below w4.heap.size w4 w6) := hb5.out.trans (hbt6.out.below (Nat.le_refl _) hb5.out.size)
  have hF6 : Hid (Full w6 w.heap.size n) := hF4.out.below hB46.out
  have hB6 : Hid (Below w.heap.size w w6) := hB4.out.trans (hB46.out.mono hB4.out.size)
  clear hbt6 hB46 hF4 hd4 hT5 hb5 hB4
  go_wp2_with fail
  refine (degree_again w.heap.size n 0 w6 hF6.out h1 h2 (by omega)).mono ?_
  rintro e w7 ⟨d5, rfl, hd5, _, hbt7⟩
  obtain rfl := deg_zero n d5 h1 h2 hd5.out
  have hB7 : Hid (Below w.heap.size w w7) := hB6.out.trans (hbt7.out.below (Nat.le_refl _) hB6.out.size)
  clear hbt7 hB6 hF6 hd5
  go_wp2_with fail
  refine (awake7_any w7).mono ?_
  rintro e w8 ⟨rfl, hb8⟩
  go_wp2_with fail
  go_ret
  exact ⟨rfl, hB7.out.trans (hb8.mono hB7.out.size)⟩
theorem srises_walk (n0 : Int) (h1 : -9223372036854775808 ≤ n0) (h2 : n0 ≤ 9223372036854775807) (x0 : Int) (hx0 : 0 ≤ x0) (hx1 : x0 ≤ 4294967295) (y0 : Int) (hy0 : 0 ≤ y0) (hy1 : y0 ≤ 4294967295) (w : World) :
    Calls Try.prog 9 #[.int .i64 n0, .int .u32 x0, .int .u32 y0] w fun e w' => e = .returned (.bool true) ∧ Below w.heap.size w w' := by
  rcases Int.lt_trichotomy y0 x0 with h | h | h
  · exact srises_lt n0 h1 h2 x0 hx0 hx1 y0 hy0 hy1 h w
  · exact srises_eq n0 h1 h2 x0 hx0 hx1 y0 hy0 hy1 h w
  · exact srises_gt n0 h1 h2 x0 hx0 hx1 y0 hy0 hy1 h w
set_option maxRecDepth 100000 in
theorem solitonRises_lifted (os : Os) (started : os.Started) (H : Type) (enc : TypeId × Value → H) :
    ReturnsInHanded {} Try.checked os 9 .any (Rows.solitonRisesSpec.pre6 enc Try.prog Try.f9 Rows.solitonRisesRow.domain false) (Rows.solitonRisesSpec.post enc Try.prog Try.f9 false true false false) := by
  refine law_lift (C := Try.checked) (tb := 4) Try.own started (by kernel_rfl) Try.func9
    (ChangeSpec.witness6 (enc := enc) (C := Try.checked) false ⟨#[], #[.int .i64 0, .int .u32 0, .int .u32 0], []⟩ 8 (by kernel_rfl) (by kernel_rfl) (by kernel_rfl) (by kernel_rfl)) Try.laidOut (by kernel_rfl) rfl rfl Try.underlying4 ?_ ?_
  · intro ds hds
    match ds, hds with
    | [_, _, _], _ => rfl
  intro W base args ds p hval0 hA0 _ _ hsz0
  have hval : ∀ (j : Nat) t v, Try.f9.params[j]? = some t → args[j]? = some v → Value.okWide Try.prog W .any base t v := hval0
  have hA : DataW.TrodAll enc Try.prog W 0 (fun _ => true) true Try.f9.params.toList args.toList ds p := hA0
  rw [Try.params9] at hA hval
  obtain ⟨v0, v1, v2, d0, d1, d2, p0, p1, p2, rfl, rfl, rfl, h0, h1, h2⟩ := trodAll_three hA
  obtain ⟨x0, rfl, hx0, hy0⟩ := open_i64 Try.underlying3 (hval 0 3 v0 rfl rfl) h0
  obtain ⟨x1, rfl, hx1⟩ := open_u32 Try.underlying25 (hval 1 25 v1 rfl rfl) h1
  obtain ⟨x2, rfl, hx2⟩ := open_u32 Try.underlying25 (hval 2 25 v2 rfl rfl) h2
  exact srises_walk x0 hx0 hy0 x1 (by omega) (by omega) x2 (by omega) (by omega) W 

theorem solitonRises_holds : Rows.SolitonRisesSaid :=
  OpenClaim.holds_of_wide 9 Try.f9 rfl rfl rfl rfl rfl rfl rfl ⟨rfl, rfl, rfl, rfl, rfl⟩ rfl rfl rfl rfl rfl (by kernel_rfl) Try.func9 (by kernel_rfl)
    (of_decide_eq_true (by kernel_rfl)) (by unfold Func.isWrapper; rw [if_neg (of_decide_eq_false (by kernel_rfl))]; exact ⟨rfl, rfl⟩)
    (fun os started H enc _ => solitonRises_lifted os started H enc)
end Go.Proofs.Ytfgcolplhadcjaa
