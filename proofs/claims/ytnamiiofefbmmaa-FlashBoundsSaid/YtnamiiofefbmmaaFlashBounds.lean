/- FlashBounds: beyond its ends there is nothing; without power neither. For every input, no condition. -/
import Derived.Test.YtnamiiofefbmmaaFlAwake
import Derived.Test.YtnamiiofefbmmaaLaw
namespace Go.Proofs.Ytnamiiofefbmmaa
open Go.ChangeShapes Go.WideShapes Go.ChangeAt Go.RowKit
theorem fl0_FF (m : Int) (a n : Nat) (h : a + n ≤ 3584) : allFF (((flNew m).fill 0 3584).sub a n) = true := by
  unfold allFF
  rw [List.all_eq_true]
  intro x hx
  simp only [Fl.sub, List.mem_map, List.mem_range] at hx
  obtain ⟨i, hi, rfl⟩ := hx
  simp only [Fl.fill]
  rw [if_pos (by omega)]; rfl
set_option maxRecDepth 100000 in
set_option maxHeartbeats 3200000 in
theorem fbounds_out (a n : Int) (hn2 : n ≤ 9223372036854775807) (w : World) (ho : n < 0 ∨ (0 ≤ n ∧ 3584 < n) ∨ (0 ≤ n ∧ n ≤ 3584 ∧ a < 0) ∨ (0 ≤ n ∧ n ≤ 3584 ∧ 0 ≤ a ∧ 3584 - n < a)) :
    Calls Try.prog 9 #[.int .i64 a, .int .i64 n] w fun e w' => e = .returned (.bool true) ∧ Below w.heap.size w w' := by
  have hm : ∀ f : Fl, f.down = false → mayE f a n = 1 := by
    intro f hd; unfold mayE; rw [hd]; simp; omega
  have HM := Lib.hid hm
  have HN := Lib.hid hn2
  clear hm hn2
  rcases ho with h1 | ⟨h1, h2⟩ | ⟨h1, h2, h3⟩ | ⟨h1, h2, h3, h4⟩
  all_goals
    go_enter Try.func9, Try.ntmps9
    go_wp2_with fail
    refine (new_any 9 w ⟨by omega, by omega⟩).mono ?_
    rintro e w1 ⟨g, rfl, hg, hf, hb⟩
    obtain ⟨f0, hf0⟩ : ∃ f0, (flNew 9).fill 0 3584 = f0 := ⟨_, rfl⟩
    have hdn : f0.down = false := by rw [← hf0]; rfl
    have hst : f0.steps = 0 := by rw [← hf0]; rfl
    rw [hf0] at hf
    have HMY := Lib.hid (may_any g f0 a n 1 w1 hf.out HN.out (HM.out f0 hdn))
    have HST := Lib.hid hst
    have hgl := hf.out.lt
    clear hdn hst hf0
    go_wp2_with fail
    refine (read_bad _ a n 1 w1 HMY.out (by decide)).mono ?_
    rintro e w' ⟨rfl, rfl⟩
    go_wp2_with fail
    refine (blank_bad _ a n 1 w1 HMY.out (by decide)).mono ?_
    rintro e w' ⟨rfl, rfl⟩
    go_wp2_with fail
    refine (cut_any g f0 w1 hf.out).mono ?_
    rintro e w2 ⟨rfl, hd⟩
    have HB2 := Lib.hid (hb.out.grown hd.out.2 hb.out.size (by intro k h; injection h with h; omega))
    obtain ⟨f1, hf1⟩ : ∃ f1 : Fl, { f0 with down := true } = f1 := ⟨_, rfl⟩
    have hdn : f1.down = true := by rw [← hf1]
    have hst : f1.steps = 0 := by rw [← hf1]; exact HST.out
    have hmd : ∀ a n, mayE f1 a n = 11 := by intro a n; unfold mayE; rw [hdn]; rfl
    rw [hf1] at hd
    have HF := Lib.hid hd.out.1
    have HMY2 := Lib.hid (fun a n (hn : n ≤ 9223372036854775807) => may_any g f1 a n 11 w2 HF.out hn (hmd a n))
    have HDN := Lib.hid (down_any g f1 true w2 HF.out hdn)
    have HER := Lib.hid (fun s => erase_down g s f1 w2 HF.out hdn)
    have HSTP := Lib.hid (steps_any g f1 w2 HF.out)
    rw [hst] at HSTP
    clear hd hf1 hdn hst hmd HMY HM HN hf hb HST
    go_wp2_with (first
      | (go_at_call 14; refine (read_bad _ 0 1 11 w2 (HMY2.out 0 1 (by omega)) (by decide)).mono ?_; rintro e w' ⟨rfl, rfl⟩)
      | (go_at_call 16; refine (prog_bad _ 0 11 0 0 none w2 (HMY2.out 0 0 (by omega)) (by decide)).mono ?_; rintro e w' ⟨rfl, rfl⟩)
      | (go_at_call 18; refine (HER.out _).mono ?_; rintro e w' ⟨rfl, rfl⟩)
      | (go_at_call 28; refine HDN.out.mono ?_; rintro e w' ⟨rfl, rfl⟩)
      | (go_at_call 20; refine (blank_bad _ 0 0 11 w2 (HMY2.out 0 0 (by omega)) (by decide)).mono ?_; rintro e w' ⟨rfl, rfl⟩)
      | (go_at_call 29; refine HSTP.out.mono ?_; rintro e w' ⟨rfl, rfl⟩))
    refine (awake16_any _).mono ?_
    rintro e w4 ⟨rfl, hb4⟩
    go_wp2_with fail
    go_ret
    exact ⟨rfl, HB2.out.trans (hb4.mono HB2.out.size)⟩
set_option maxRecDepth 100000 in
set_option maxHeartbeats 3200000 in
theorem fbounds_in (a n : Nat) (h : a + n ≤ 3584) (w : World) :
    Calls Try.prog 9 #[.int .i64 (a : Int), .int .i64 (n : Int)] w fun e w' => e = .returned (.bool true) ∧ Below w.heap.size w w' := by
  have hn : n ≤ 3584 := by omega
  have hna : (a : Int) ≤ 3584 - (n : Int) := by omega
  have HH := Lib.hid h
  clear h
  go_enter Try.func9, Try.ntmps9
  go_wp2_with fail
  refine (new_any 9 w ⟨by omega, by omega⟩).mono ?_
  rintro e w1 ⟨g, rfl, hg, hf, hb⟩
  have hff := fl0_FF 9 a n HH.out
  obtain ⟨f0, hf0⟩ : ∃ f0, (flNew 9).fill 0 3584 = f0 := ⟨_, rfl⟩
  have hdn : f0.down = false := by rw [← hf0]; rfl
  have hst : f0.steps = 0 := by rw [← hf0]; rfl
  rw [hf0] at hf hff
  have HRD := Lib.hid (read_ok g a n f0 w1 hf.out hdn HH.out)
  have HBL := Lib.hid (fun w' (hw : FlAt w' g f0) => blank_ok g a n f0 w' hw hdn HH.out)
  rw [hff] at HBL
  have HST := Lib.hid hst
  have hgl := hf.out.lt
  clear hdn hst hf0 hff
  go_wp2_with fail
  refine HRD.out.mono ?_
  rintro e w2 ⟨A2, n2, c2, rfl, _, _, hb2⟩
  have HF2 := Lib.hid (hf.out.below hb2.out)
  have HB2 := Lib.hid (hb.out.trans (hb2.out.mono hb.out.size))
  clear hb2 hf hb HRD
  go_wp2_with fail
  refine (HBL.out w2 HF2.out).mono ?_
  rintro e w3 ⟨rfl, hb3⟩
  have HF3 := Lib.hid (HF2.out.below hb3.out)
  have HB3 := Lib.hid (HB2.out.trans (hb3.out.mono HB2.out.size))
  clear hb3 HF2 HB2 HBL
  go_wp2_with fail
  refine (cut_any g f0 w3 HF3.out).mono ?_
  rintro e w2 ⟨rfl, hd⟩
  have HB4 := Lib.hid (HB3.out.grown hd.out.2 HB3.out.size (by intro k h; injection h with h; omega))
  obtain ⟨f1, hf1⟩ : ∃ f1 : Fl, { f0 with down := true } = f1 := ⟨_, rfl⟩
  have hdn : f1.down = true := by rw [← hf1]
  have hst : f1.steps = 0 := by rw [← hf1]; exact HST.out
  have hmd : ∀ a n, mayE f1 a n = 11 := by intro a n; unfold mayE; rw [hdn]; rfl
  rw [hf1] at hd
  have HF := Lib.hid hd.out.1
  have HMY2 := Lib.hid (fun a n (hn : n ≤ 9223372036854775807) => may_any g f1 a n 11 w2 HF.out hn (hmd a n))
  have HDN := Lib.hid (down_any g f1 true w2 HF.out hdn)
  have HER := Lib.hid (fun s => erase_down g s f1 w2 HF.out hdn)
  have HSTP := Lib.hid (steps_any g f1 w2 HF.out)
  rw [hst] at HSTP
  clear hd hf1 hdn hst hmd HST HF3 HB3
  go_wp2_with (first
    | (go_at_call 14; refine (read_bad _ 0 1 11 w2 (HMY2.out 0 1 (by omega)) (by decide)).mono ?_; rintro e w' ⟨rfl, rfl⟩)
    | (go_at_call 16; refine (prog_bad _ 0 11 0 0 none w2 (HMY2.out 0 0 (by omega)) (by decide)).mono ?_; rintro e w' ⟨rfl, rfl⟩)
    | (go_at_call 18; refine (HER.out _).mono ?_; rintro e w' ⟨rfl, rfl⟩)
    | (go_at_call 28; refine HDN.out.mono ?_; rintro e w' ⟨rfl, rfl⟩)
    | (go_at_call 20; refine (blank_bad _ 0 0 11 w2 (HMY2.out 0 0 (by omega)) (by decide)).mono ?_; rintro e w' ⟨rfl, rfl⟩)
    | (go_at_call 29; refine HSTP.out.mono ?_; rintro e w' ⟨rfl, rfl⟩))
  refine (awake16_any _).mono ?_
  rintro e w4 ⟨rfl, hb4⟩
  go_wp2_with fail
  go_ret
  exact ⟨rfl, HB4.out.trans (hb4.mono HB4.out.size)⟩
theorem fbounds_walk (a : Int) (_ : -9223372036854775808 ≤ a) (_ : a ≤ 9223372036854775807) (n : Int) (_ : -9223372036854775808 ≤ n) (hn2 : n ≤ 9223372036854775807) (w : World) :
    Calls Try.prog 9 #[.int .i64 a, .int .i64 n] w fun e w' => e = .returned (.bool true) ∧ Below w.heap.size w w' := by
  by_cases ho : n < 0 ∨ (0 ≤ n ∧ 3584 < n) ∨ (0 ≤ n ∧ n ≤ 3584 ∧ a < 0) ∨ (0 ≤ n ∧ n ≤ 3584 ∧ 0 ≤ a ∧ 3584 - n < a)
  · exact fbounds_out a n hn2 w ho
  · obtain ⟨k, rfl⟩ : ∃ k : Nat, n = k := ⟨n.toNat, by omega⟩
    obtain ⟨j, rfl⟩ : ∃ j : Nat, a = j := ⟨a.toNat, by omega⟩
    exact fbounds_in j k (by omega) w

set_option maxRecDepth 100000 in
theorem flashBounds_lifted (os : Os) (started : os.Started) (H : Type) (enc : TypeId × Value → H) :
    ReturnsInHanded {} Try.checked os 9 .any (Rows.flashBoundsSpec.pre6 enc Try.prog Try.f9 Rows.flashBoundsRow.domain false) (Rows.flashBoundsSpec.post enc Try.prog Try.f9 false true false false) := by
  refine law_lift (C := Try.checked) (tb := 4) Try.own started (by kernel_rfl) Try.func9
    (ChangeSpec.witness6 (enc := enc) (C := Try.checked) false ⟨#[], #[.int .i64 0, .int .i64 0], []⟩ 8 (by kernel_rfl) (by kernel_rfl) (by kernel_rfl) (by kernel_rfl)) Try.laidOut (by kernel_rfl) rfl rfl Try.underlying4 ?_ ?_
  · intro ds hds
    match ds, hds with
    | [_, _], _ => rfl
  intro W base args ds p hval0 hA0 _ _ hsz0
  have hval : ∀ (j : Nat) t v, Try.f9.params[j]? = some t → args[j]? = some v → Value.okWide Try.prog W .any base t v := hval0
  have hA : DataW.TrodAll enc Try.prog W 0 (fun _ => true) true Try.f9.params.toList args.toList ds p := hA0
  rw [Try.params9] at hA hval
  obtain ⟨v0, v1, d0, d1, p0, p1, rfl, rfl, rfl, h0, h1⟩ := trodAll_two hA
  obtain ⟨x0, rfl, hx0, hy0⟩ := open_i64 Try.underlying3 (hval 0 3 v0 rfl rfl) h0
  obtain ⟨x1, rfl, hx1, hy1⟩ := open_i64 Try.underlying3 (hval 1 3 v1 rfl rfl) h1
  exact fbounds_walk x0 hx0 hy0 x1 hx1 hy1 W 

theorem flashBounds_holds : Rows.FlashBoundsSaid :=
  OpenClaim.holds_of_wide 9 Try.f9 rfl rfl rfl rfl rfl rfl rfl ⟨rfl, rfl, rfl, rfl, rfl⟩ rfl rfl rfl rfl rfl (by kernel_rfl) Try.func9 (by kernel_rfl)
    (of_decide_eq_true (by kernel_rfl)) (by unfold Func.isWrapper; rw [if_neg (of_decide_eq_false (by kernel_rfl))]; exact ⟨rfl, rfl⟩)
    (fun os started H enc _ => flashBounds_lifted os started H enc)
end Go.Proofs.Ytnamiiofefbmmaa
