/- Flash: Erase: by contract; what awake sees. -/
import Derived.Test.YtekaoodagaplmaaFlStep
import Derived.WalkLawsBesides
namespace Go.Proofs.Ytekaoodagaplmaa
open Go.RowKit
theorem Done.ofDrewN {g k : Nat} {f : Fl} {w w' : World} (h : Done g f (w.drewN k) w') : Done g f w w' := ⟨h.1, ⟨h.2.os, h.2.tape, h.2.output, h.2.size, h.2.block⟩⟩
def Fl.wearUp (f : Fl) (s : Nat) : Fl := { f with er := fun i => if i = s then f.er s + 1 else f.er i }
def Fl.tornN (f : Fl) : Nat := (max f.torn 0 % 257).toNat
def Fl.erase (f : Fl) (s : Nat) : Fl × Int :=
  if f.wear ≤ f.er s then (f, 10) else if (f.wearUp s).stepB then ((f.wearUp s).stepF.fill (256 * s) 256, 0) else ((f.wearUp s).stepF.fill (256 * s) f.tornN, 11)
theorem Fl.tornN_le (f : Fl) : f.tornN ≤ 256 := by unfold Fl.tornN; omega
theorem FlAt.wearUp {W : World} {g : Nat} {f : Fl} (h : FlAt W g f) (s : Nat) (hs : s < 14) : Done g (f.wearUp s) W (W.setCell ⟨g, 3584 + s, none⟩ (.int .i64 (f.er s + 1))) := by
  refine h.set _ _ _ (by omega) fun i hi => ?_
  by_cases e : i = 3584 + s
  · subst e
    rw [if_pos rfl]
    unfold Fl.cell
    rw [if_neg (by omega), if_pos (by omega), Nat.add_sub_cancel_left]
    simp [Fl.wearUp]
  · rw [if_neg e]
    unfold Fl.cell
    by_cases h1 : i < 3584
    · rw [if_pos h1, if_pos h1]; rfl
    · rw [if_neg h1, if_neg h1]
      by_cases h2 : i < 3598
      · rw [if_pos h2, if_pos h2]
        simp [Fl.wearUp, show i - 3584 ≠ s by omega]
      · rw [if_neg h2, if_neg h2]; rfl
theorem erase_nil (s : Int) (w : World) : Calls Try.prog 48 #[.pointer none, .int .i64 s] w fun e w' => e = .returned (.int .i64 1) ∧ w = w' := by
  go_enter Try.func48, Try.ntmps48
  go_wp2_with fail
  go_ret
  exact ⟨rfl, rfl⟩
theorem erase_down (g : Nat) (s : Int) (f : Fl) (w : World) (hf : FlAt w g f) (hd : f.down = true) : Calls Try.prog 48 #[.pointer (some ⟨g, 0, none⟩), .int .i64 s] w fun e w' => e = .returned (.int .i64 11) ∧ w = w' := by
  have hc := hf.at_down
  rw [hd] at hc
  clear hd hf
  go_enter Try.func48, Try.ntmps48
  go_wp2_with fail
  go_ret
  exact ⟨rfl, rfl⟩
theorem erase_arg (g : Nat) (s : Int) (f : Fl) (w : World) (hf : FlAt w g f) (hd : f.down = false) (hs : s < 0 ∨ 14 ≤ s) : Calls Try.prog 48 #[.pointer (some ⟨g, 0, none⟩), .int .i64 s] w fun e w' => e = .returned (.int .i64 1) ∧ w = w' := by
  have hc := hf.at_down
  rw [hd] at hc
  clear hd hf
  by_cases h1 : s < 0
  · clear hs
    go_enter Try.func48, Try.ntmps48
    go_wp2_with fail
    go_ret
    exact ⟨rfl, rfl⟩
  · have h2 : 14 ≤ s := by omega
    clear hs
    go_enter Try.func48, Try.ntmps48
    go_wp2_with fail
    go_ret
    exact ⟨rfl, rfl⟩
set_option maxRecDepth 100000 in
theorem slice_sector (g s : Nat) (hs : s < 14) (w : World) :
    (Instr.sliceAt 54 (.pointer (some ⟨g, 0, none⟩)) (some (.int .i64 ((s : Int) * 256))) (some (.int .i64 (((s : Int) + 1) * 256))) none).run Try.prog w = .ok (.slice (some ⟨g, 256 * s, none⟩) 256 (3584 - 256 * s)) w := by
  have hal : Try.prog.arrayLen 54 = 3584 := by kernel_rfl
  have hsz : (sizeOf (Try.prog.elem 54)).run Try.prog w = .ok 1 w := by kernel_rfl
  rw [run_sliceAt_array_lh (P := Try.prog) w 54 ⟨g, 0, none⟩ (by kernel_rfl) .i64 .i64 _ _ (by omega) (by omega) (by rw [hal]; omega), hal, hsz]
  have e1 : ((s : Int) * 256).toNat = 256 * s := by omega
  have e2 : (((s : Int) + 1) * 256).toNat = 256 * s + 256 := by omega
  simp only [Result.andThen_ok, slicedAt, e1, e2]
  rw [if_neg (by omega)]
  have e3 : (⟨g, 0, none⟩ : Addr).add (256 * s * 1) = ⟨g, 256 * s, none⟩ := by rw [plain_add]; congr 1; omega
  rw [e3, show 256 * s + 256 - 256 * s = 256 by omega]
set_option maxHeartbeats 1600000 in
theorem erase_ok (g s : Nat) (f : Fl) (w : World) (hf : FlAt w g f) (hd : f.down = false) (hs : s < 14) (he : 0 ≤ f.er s) (hwm : f.wear ≤ 9223372036854775807)
    (h0 : -9223372036854775808 ≤ f.steps) (h1 : f.steps < 9223372036854775807) (hle : f.left ≤ 9223372036854775807) :
    Calls Try.prog 48 #[.pointer (some ⟨g, 0, none⟩), .int .i64 (s : Int)] w (ProgOk g (f.erase s) w) := by
  have hc := hf.at_down
  rw [hd] at hc
  have hce := hf.at_er hs
  have hcw := hf.at_wear
  have hfz := hf.frozen (3584 + s)
  have hi0 : (0 : Int) ≤ (s : Int) := by omega
  have hi1 : (s : Int) < 14 := by omega
  have HF := Lib.hid hf
  by_cases hw : f.wear ≤ f.er s
  · have HE : Hid (f.erase s = (f, 10)) := by show _ = _; unfold Fl.erase; rw [if_pos hw]
    generalize f.er s = ers at *
    generalize f.wear = wr at *
    clear hf hd h0 h1 hle
    go_enter Try.func48, Try.ntmps48
    go_wp2_with fail
    go_quiet (fail)
    go_wp2_with fail
    go_ret
    refine ⟨?_, ?_⟩
    · rw [HE.out]; rfl
    · rw [HE.out]; exact ⟨HF.out, ⟨rfl, rfl, rfl, Nat.le_refl _, fun _ _ _ => rfl⟩⟩
  · have hup := Lib.hid (fun k => ((show FlAt (w.drewN k) g f from hf).wearUp s hs).ofDrewN)
    obtain ⟨f1, hf1⟩ : ∃ f1, f.wearUp s = f1 := ⟨_, rfl⟩
    have HE : Hid (f.erase s = if f1.stepB then (f1.stepF.fill (256 * s) 256, 0) else (f1.stepF.fill (256 * s) f.tornN, 11)) := by show _ = _; unfold Fl.erase; rw [if_neg hw, hf1]
    have HS : Hid (f1.steps = f.steps ∧ f1.left = f.left ∧ f1.torn = f.torn) := by rw [← hf1]; exact ⟨rfl, rfl, rfl⟩
    rw [hf1] at hup
    have hT := Lib.hid (Fl.tornN_le f)
    have HTN : Hid ((f.tornN : Int) = max f.torn 0 % 257) := by show _ = _; unfold Fl.tornN; omega
    have HST : Hid (∀ w', FlAt w' g f1 → Calls Try.prog 57 #[.pointer (some ⟨g, 0, none⟩)] w' fun e w'' => e = .returned (.bool f1.stepB) ∧ Hid (Done g f1.stepF w' w'')) := fun w' h => flstep_any g f1 w' h (by rw [HS.out.1]; exact h0) (by rw [HS.out.1]; exact h1) (by rw [HS.out.2.1]; exact hle)
    have htn := Fl.stepF_torn f1
    rw [HS.out.2.2] at htn
    have HTO := Lib.hid htn
    generalize f.er s = ers at *
    generalize f.wear = wr at *
    generalize f.tornN = tn at *
    generalize f.torn = tt at *
    have hsl := fun w' => slice_sector g s hs w'
    have hwr1 : IntKind.i64.wrap (ers + 1) = ers + 1 := IntWalk.i64_in _ ⟨by omega, by omega⟩
    clear hf hd h0 h1 hle htn hf1 hwm
    go_enter Try.func48, Try.ntmps48
    go_wp2_with fail
    go_quiet (fail)
    go_wp2_with fail
    go_region
    go_wp2_with fail
    refine (HST.out _ (hup.out _).1).mono ?_
    rintro e w2 ⟨rfl, hd2⟩
    have HD2 := Lib.hid ((hup.out _).trans hd2.out)
    clear hd2 hup HST hce hcw hfz hsl hwr1
    cases hb : f1.stepB with
    | true =>
      have HE2 : Hid (f.erase s = (f1.stepF.fill (256 * s) 256, 0)) := by show _ = _; rw [HE.out, if_pos hb]
      clear HE hb
      generalize f1.stepF = f2 at *
      go_wp2_with fail
      refine (fill_any g (256 * s) 256 _ f2 w2 HD2.out.1 (by omega)).mono ?_
      rintro e w3 ⟨rfl, hd3⟩
      have HD3 := Lib.hid (HD2.out.trans hd3.out)
      clear hd3
      go_wp2_with fail
      go_ret
      refine ⟨?_, ?_⟩
      · rw [HE2.out]; rfl
      · rw [HE2.out]; exact HD3
    | false =>
      have HE2 : Hid (f.erase s = (f1.stepF.fill (256 * s) tn, 11)) := by show _ = _; rw [HE.out, if_neg (by rw [hb]; decide)]
      clear HE hb
      generalize f1.stepF = f2 at *
      have hct := HD2.out.1.at_torn
      rw [HTO.out] at hct
      have hfill : ∀ m, tn = m → Calls Try.prog 21 #[.slice (some ⟨g, 256 * s, none⟩) m (3584 - 256 * s)] w2 fun e w' => e = .returned (.tuple #[]) ∧ Hid (Done g (f2.fill (256 * s) tn) w2 w') := by
        intro m hm
        rw [← hm]
        exact fill_any g (256 * s) tn _ f2 w2 HD2.out.1 (by have := hT.out; omega)
      have HFILL := Lib.hid hfill
      clear hfill
      by_cases ht0 : tt < 0
      · have h0 : tn = 0 := by have := HTN.out; omega
        have H0 := Lib.hid h0
        clear h0
        go_wp2_with fail
        refine (HFILL.out _ H0.out).mono ?_
        rintro e w3 ⟨rfl, hd3⟩
        have HD3 := Lib.hid (HD2.out.trans hd3.out)
        clear hd3
        go_wp2_with fail
        go_ret
        refine ⟨?_, ?_⟩
        · rw [HE2.out]; rfl
        · rw [HE2.out]; exact HD3
      · have ht1 : 0 ≤ tt := by omega
        have h0 : tn = (tt % 257).toNat := by have := HTN.out; omega
        have H0 := Lib.hid h0
        clear h0 ht0
        go_wp2_with fail
        refine (HFILL.out _ H0.out).mono ?_
        rintro e w3 ⟨rfl, hd3⟩
        have HD3 := Lib.hid (HD2.out.trans hd3.out)
        clear hd3
        go_wp2_with fail
        go_ret
        refine ⟨?_, ?_⟩
        · rw [HE2.out]; rfl
        · rw [HE2.out]; exact HD3
end Go.Proofs.Ytekaoodagaplmaa
