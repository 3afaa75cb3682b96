/- The reference's Flash: Fuse, Start, Erase, New: by contracts. -/
import Derived.Test.YtmlmpjokmbgmcaaRFl2
namespace Go.Proofs.Ytmlmpjokmbgmcaa
open Go.RowKit
section
variable {gm gB : Nat} {f : Fl} {w : World}
set_option maxRecDepth 100000 in
set_option maxHeartbeats 800000 in
theorem rfuse_any (n t : Int) (hf : RfAt w gm gB f) (hn : -9223372036854775808 ≤ n ∧ n ≤ 9223372036854775807) : Calls Try.prog 22 #[.pointer (some ⟨gm, 0, none⟩), .int .i64 n, .int .i64 t] w fun e w' => e = .returned (.tuple #[]) ∧ Hid (RDone gm gB { f with there := decide (0 ≤ n), left := n, torn := t } w w') := by
  obtain ⟨h1, h2, fu, fz, h3, h4⟩ := hf
  have c1 : w.cell? ⟨gm, 18, none⟩ = some (.bool fu) := h4.at_ (i := 18) (by omega)
  have c2 : w.cell? ⟨gm, 19, none⟩ = some (.int .i64 fz) := h4.at_ (i := 19) (by omega)
  have c3 : w.cell? ⟨gm, 20, none⟩ = some (.int .i64 f.torn) := h4.at_ (i := 20) (by omega)
  have z1 := h4.frozen 18
  have z2 := h4.frozen 19
  have z3 := h4.frozen 20
  have k1 : RHead (w.setCell ⟨gm, 18, none⟩ (.bool (decide (0 ≤ n)))) gm gB f (decide (0 ≤ n)) fz := h4.set (rcell_tail 18 _ (by omega) rfl rfl (by intro i hi; rcases hi with rfl | rfl | rfl | rfl | rfl <;> rfl))
  have k2 : RHead ((w.setCell ⟨gm, 18, none⟩ (.bool (decide (0 ≤ n)))).setCell ⟨gm, 19, none⟩ (.int .i64 n)) gm gB f (decide (0 ≤ n)) n := k1.set (rcell_tail 19 _ (by omega) rfl rfl (by intro i hi; rcases hi with rfl | rfl | rfl | rfl | rfl <;> rfl))
  have k3 : RHead (((w.setCell ⟨gm, 18, none⟩ (.bool (decide (0 ≤ n)))).setCell ⟨gm, 19, none⟩ (.int .i64 n)).setCell ⟨gm, 20, none⟩ (.int .i64 t)) gm gB { f with there := decide (0 ≤ n), left := n, torn := t } (decide (0 ≤ n)) n := k2.set (rcell_tail 20 _ (by omega) rfl rfl (by intro i hi; rcases hi with rfl | rfl | rfl | rfl | rfl <;> rfl))
  have hbo : ∀ (W : World) (i : Nat) (v : Value), (W.setCell ⟨gm, i, none⟩ v).heap[gB]? = W.heap[gB]? := fun W i v => heap_setCell_other W ⟨gm, i, none⟩ gB v (fun e => h1 e.symm)
  have HD : Hid (RDone gm gB { f with there := decide (0 ≤ n), left := n, torn := t } w (((w.setCell ⟨gm, 18, none⟩ (.bool (decide (0 ≤ n)))).setCell ⟨gm, 19, none⟩ (.int .i64 n)).setCell ⟨gm, 20, none⟩ (.int .i64 t))) := by
    refine ⟨⟨h1, (h2.keep (((hbo _ _ _).trans (hbo _ _ _)).trans (hbo _ _ _))).bits rfl, _, _, ⟨fun e => ⟨e, rfl, by simpa using e⟩, fun e => .inl e, hn.1, hn.2⟩, k3⟩, ((gr2_a w gm gB 18 _).trans (gr2_a _ gm gB 19 _)).trans (gr2_a _ gm gB 20 _)⟩
  clear h1 h2 h3 h4 k1 k2 k3 hbo
  go_enter Try.func22, Try.ntmps22
  go_wp2_with fail
  go_end0
  exact ⟨rfl, HD⟩
set_option maxRecDepth 100000 in
set_option maxHeartbeats 800000 in
theorem rstart_any (hf : RfAt w gm gB f) : Calls Try.prog 26 #[.pointer (some ⟨gm, 0, none⟩)] w fun e w' => e = .returned (.tuple #[]) ∧ Hid (RDone gm gB { f with down := false } w w') := by
  obtain ⟨h1, h2, fu, fz, h3, h4⟩ := hf
  have c0 : w.cell? ⟨gm, 16, none⟩ = some (.bool f.down) := h4.at_ (i := 16) (by omega)
  have c1 : w.cell? ⟨gm, 18, none⟩ = some (.bool fu) := h4.at_ (i := 18) (by omega)
  have c2 : w.cell? ⟨gm, 19, none⟩ = some (.int .i64 fz) := h4.at_ (i := 19) (by omega)
  have z0 := h4.frozen 16
  have z1 := h4.frozen 18
  have k1 : ∀ b, RHead ((w.setCell ⟨gm, 16, none⟩ (.bool false)).setCell ⟨gm, 18, none⟩ (.bool b)) gm gB { f with down := false } b fz := by
    intro b
    have q1 : RHead (w.setCell ⟨gm, 16, none⟩ (.bool false)) gm gB { f with down := false } fu fz := h4.set (rcell_tail 16 _ (by omega) rfl rfl (by intro i hi; rcases hi with rfl | rfl | rfl | rfl | rfl <;> rfl))
    exact q1.set (rcell_tail 18 _ (by omega) rfl rfl (by intro i hi; rcases hi with rfl | rfl | rfl | rfl | rfl <;> rfl))
  have hbo : ∀ (W : World) (i : Nat) (v : Value), (W.setCell ⟨gm, i, none⟩ v).heap[gB]? = W.heap[gB]? := fun W i v => heap_setCell_other W ⟨gm, i, none⟩ gB v (fun e => h1 e.symm)
  have mk : ∀ b, FuseOk { f with down := false } b fz → RDone gm gB { f with down := false } w ((w.setCell ⟨gm, 16, none⟩ (.bool false)).setCell ⟨gm, 18, none⟩ (.bool b)) := fun b hb =>
    ⟨⟨h1, (h2.keep ((hbo _ _ _).trans (hbo _ _ _))).bits rfl, b, fz, hb, k1 b⟩, (gr2_a w gm gB 16 _).trans (gr2_a _ gm gB 18 _)⟩
  cases fu with
  | false =>
    have HD := Lib.hid (mk false ⟨fun e => (by have := (h3.yes e).1; cases this), fun _ => .inl rfl, h3.lo, h3.hi⟩)
    clear h1 h2 h3 h4 k1 hbo mk
    go_enter Try.func26, Try.ntmps26
    go_wp2_with fail
    go_end0
    exact ⟨rfl, HD⟩
  | true =>
    by_cases hz : 0 ≤ fz
    · have HD := Lib.hid (mk true ⟨fun e => h3.yes e, fun e => (by rcases h3.no e with h | ⟨_, h, _⟩; cases h; omega), h3.lo, h3.hi⟩)
      have hq : decide (0 ≤ fz) = true := decide_eq_true hz
      clear h1 h2 h3 h4 k1 hbo mk
      go_enter Try.func26, Try.ntmps26
      go_wp2_with fail
      go_end0
      exact ⟨rfl, by simpa [hz] using HD⟩
    · have HD := Lib.hid (mk false ⟨fun e => absurd (h3.yes e).2.2 hz, fun _ => .inl rfl, h3.lo, h3.hi⟩)
      clear h1 h2 h3 h4 k1 hbo mk
      go_enter Try.func26, Try.ntmps26
      go_wp2_with fail
      go_end0
      exact ⟨rfl, by simpa [hz] using HD⟩
end
theorem fill_zero (f : Fl) (a : Nat) : f.fill a 0 = f := by
  unfold Fl.fill; congr 1; funext i; rw [if_neg (by omega)]
theorem rerase_bad (gm gB : Nat) (s k : Int) (f : Fl) (w : World) (hf : RfAt w gm gB f) (h : f.down = true ∧ k = 11 ∨ f.down = false ∧ (s < 0 ∨ 14 ≤ s) ∧ k = 1) : Calls Try.prog 48 #[.pointer (some ⟨gm, 0, none⟩), .int .i64 s] w fun e w' => e = .returned (.int .i64 k) ∧ w = w' := by
  have hoff := hf.off
  clear hf
  rcases h with ⟨h1, rfl⟩ | ⟨h1, h2, rfl⟩
  · rw [h1] at hoff
    clear h1
    go_enter Try.func48, Try.ntmps48
    go_wp2_with fail
    go_ret
    exact ⟨rfl, rfl⟩
  · rw [h1] at hoff
    by_cases h3 : s < 0
    · clear h1 h2
      go_enter Try.func48, Try.ntmps48
      go_wp2_with fail
      go_ret
      exact ⟨rfl, rfl⟩
    · have h4 : 14 ≤ s := by omega
      clear h1 h2
      go_enter Try.func48, Try.ntmps48
      go_wp2_with fail
      go_ret
      exact ⟨rfl, rfl⟩
set_option maxRecDepth 100000 in
set_option maxHeartbeats 3200000 in
theorem rerase_ok (gm gB s : Nat) (f : Fl) (w : World) (hf : RfAt w gm gB f) (hd : f.down = false) (hs : s < 14) (he : 0 ≤ f.er s) (hwm : f.wear ≤ 9223372036854775807)
    (h0 : 0 ≤ f.steps) (h1 : f.steps < 9223372036854775807) :
    Calls Try.prog 48 #[.pointer (some ⟨gm, 0, none⟩), .int .i64 (s : Int)] w (RProgOk gm gB (f.erase s) w) := by
  have hoff := hf.off
  rw [hd] at hoff
  have hce := hf.erC hs
  have hcw := hf.wearC
  have hfz := hf.frz (2 + s)
  have hi0 : (0 : Int) ≤ (s : Int) := by omega
  have hi1 : (s : Int) < 14 := by omega
  have HF := Lib.hid hf
  by_cases hw : f.wear ≤ f.er s
  · have HE : Hid (f.erase s = (f, 10)) := by show _ = _; unfold Fl.erase; rw [if_pos hw]
    generalize f.er s = ers at *
    generalize f.wear = wr at *
    clear hf hd h0 h1
    go_enter Try.func48, Try.ntmps48
    go_wp2_with fail
    go_quiet (fail)
    go_wp2_with fail
    go_ret
    refine ⟨?_, ?_⟩
    · rw [HE.out]; rfl
    · rw [HE.out]; exact ⟨HF.out, ⟨rfl, rfl, rfl, Nat.le_refl _, fun _ _ _ _ => rfl⟩⟩
  · have hup : Hid (∀ k, RDone gm gB (f.wearUp s) w ((w.drewN k).setCell ⟨gm, 2 + s, none⟩ (.int .i64 (f.er s + 1)))) := Lib.hid fun k => by
      obtain ⟨q1, q2⟩ := (show RfAt (w.drewN k) gm gB f from hf).upEr s hs
      exact ⟨q1, q2.os, q2.tape, q2.output, q2.size, q2.block⟩
    obtain ⟨f1, hf1⟩ : ∃ f1, f.wearUp s = f1 := ⟨_, rfl⟩
    have HE : Hid (f.erase s = if f1.stepB then (f1.stepF.fill (256 * s) 256, 0) else (f1.stepF.fill (256 * s) f.tornN, 11)) := by show _ = _; unfold Fl.erase; rw [if_neg hw, hf1]
    have HS : Hid (f1.steps = f.steps ∧ f1.down = f.down ∧ f1.torn = f.torn) := by rw [← hf1]; exact ⟨rfl, rfl, rfl⟩
    rw [hf1] at hup
    have hT := Lib.hid (Fl.tornN_le f)
    have HTN : Hid ((f.tornN : Int) = max f.torn 0 % 257) := by show _ = _; unfold Fl.tornN; omega
    have HST : Hid (∀ w', RfAt w' gm gB f1 → Calls Try.prog 55 #[.pointer (some ⟨gm, 0, none⟩)] w' fun e w'' => e = .returned (.bool f1.stepB) ∧ Hid (RDone gm gB f1.stepF w' w'')) := fun w' h => rstep_any gm gB f1 w' h (HS.out.2.1.trans hd) (by rw [HS.out.1]; exact h0) (by rw [HS.out.1]; exact h1)
    have htn := Fl.stepF_torn f1
    rw [HS.out.2.2] at htn
    have HTO := Lib.hid htn
    generalize f.er s = ers at *
    generalize f.wear = wr at *
    generalize f.tornN = tn at *
    generalize f.torn = tt at *
    have hwr1 : IntKind.i64.wrap (ers + 1) = ers + 1 := IntWalk.i64_in _ ⟨by omega, by omega⟩
    clear hf hd h0 h1 htn hf1 hwm
    go_enter Try.func48, Try.ntmps48
    go_wp2_with fail
    go_quiet (fail)
    go_wp2_with fail
    go_region
    go_wp2_with fail
    refine (HST.out _ (hup.out _).1).mono ?_
    rintro e w2 ⟨rfl, hd2⟩
    have HD2 := Lib.hid ((hup.out _).trans hd2.out)
    clear hd2 hup HST hce hcw hfz hwr1 hoff
    cases hb : f1.stepB with
    | true =>
      have HE2 : Hid (f.erase s = (f1.stepF.fill (256 * s) 256, 0)) := by show _ = _; rw [HE.out, if_pos hb]
      clear HE hb HTO
      generalize f1.stepF = f2 at *
      go_wp2_with fail
      go_loopw [49] (fun i wr => ∃ k : Nat, k ≤ 256 ∧ i = .int .i64 k ∧ Hid (RDone gm gB (f2.fill (256 * s) k) w wr)) (fun i _ => 256 - (intOf i).toNat)
      case atStart => exact ⟨0, by omega, rfl, by rw [fill_zero]; exact HD2.out⟩
      case round =>
        obtain ⟨k, hk, rfl, hdn⟩ := hrel
        by_cases hlt : k < 256
        · have hks : 256 * s + k < 3584 := by omega
          have hc0 := hdn.out.1.slot0
          have hcb := hdn.out.1.2.1.at_ (i := 256 * s + k) hks
          have hfb := hdn.out.1.2.1.frozen (256 * s + k)
          have hki : (k : Int) < 256 := by omega
          have hcb2 := hcb
          have hfb2 := hfb
          rw [show 256 * s + k = s * 256 + k by omega] at hcb2 hfb2
          have HN : Hid (RDone gm gB (f2.fill (256 * s) (k + 1)) w (wr.setCell ⟨gB, s * 256 + k, none⟩ (.int .u8 255))) := by
            show RDone _ _ _ _ _
            rw [show s * 256 + k = 256 * s + k by omega]
            exact hdn.out.trans (RfAt.ff (256 * s) k hks _ rfl hdn.out.1)
          clear hdn
          go_wp2_with fail
          go_roundw
          case rel => exact ⟨k + 1, by omega, by go_num, HN⟩
          case measure => simp [intOf]; omega
        · obtain rfl : k = 256 := by omega
          go_wp2_with fail
          go_ret
          refine ⟨?_, ?_⟩
          · rw [HE2.out]; rfl
          · rw [HE2.out]; exact hdn
    | false =>
      have HE2 : Hid (f.erase s = (f1.stepF.fill (256 * s) tn, 11)) := by show _ = _; rw [HE.out, if_neg (by rw [hb]; decide)]
      clear HE hb
      generalize f1.stepF = f2 at *
      have hct := HD2.out.1.tornW
      rw [HTO.out] at hct
      have ht256 : tn ≤ 256 := hT.out
      by_cases ht0 : tt ≤ 0
      · have h0 : tn = 0 := by have := HTN.out; omega
        subst h0
        have hnp : ¬ 0 < tt := by omega
        clear HTO
        go_wp2_with fail
        go_loopw [49] (fun i wr => ∃ k : Nat, k ≤ 0 ∧ i = .int .i64 k ∧ Hid (RDone gm gB (f2.fill (256 * s) k) w wr)) (fun i _ => 0 - (intOf i).toNat)
        case atStart => exact ⟨0, by omega, rfl, by rw [fill_zero]; exact HD2.out⟩
        case round =>
          obtain ⟨k, hk, rfl, hdn⟩ := hrel
          obtain rfl : k = 0 := by omega
          go_wp2_with fail
          go_ret
          refine ⟨?_, ?_⟩
          · rw [HE2.out]; rfl
          · rw [HE2.out]; exact hdn
      · have ht1 : 0 < tt := by omega
        have hn : tt % 257 = (tn : Int) := by have := HTN.out; omega
        have HN1 := Lib.hid hn
        clear hn ht0 HTO
        go_upto_region 11 with fail
        rw [HN1.out]
        go_wp2_with fail
        go_loopw [49] (fun i wr => ∃ k : Nat, k ≤ tn ∧ i = .int .i64 k ∧ Hid (RDone gm gB (f2.fill (256 * s) k) w wr)) (fun i _ => tn - (intOf i).toNat)
        case atStart => exact ⟨0, by omega, rfl, by rw [fill_zero]; exact HD2.out⟩
        case round =>
          obtain ⟨k, hk, rfl, hdn⟩ := hrel
          by_cases hlt : k < tn
          · have hks : 256 * s + k < 3584 := by omega
            have hc0 := hdn.out.1.slot0
            have hcb := hdn.out.1.2.1.at_ (i := 256 * s + k) hks
            have hfb := hdn.out.1.2.1.frozen (256 * s + k)
            have hki : (k : Int) < 256 := by omega
            have hcb2 := hcb
            have hfb2 := hfb
            rw [show 256 * s + k = s * 256 + k by omega] at hcb2 hfb2
            have HN : Hid (RDone gm gB (f2.fill (256 * s) (k + 1)) w (wr.setCell ⟨gB, s * 256 + k, none⟩ (.int .u8 255))) := by
              show RDone _ _ _ _ _
              rw [show s * 256 + k = 256 * s + k by omega]
              exact hdn.out.trans (RfAt.ff (256 * s) k hks _ rfl hdn.out.1)
            clear hdn
            go_wp2_with fail
            go_roundw
            case rel => exact ⟨k + 1, by omega, by go_num, HN⟩
            case measure => simp [intOf]; omega
          · obtain rfl : k = tn := by omega
            go_wp2_with fail
            go_ret
            refine ⟨?_, ?_⟩
            · rw [HE2.out]; rfl
            · rw [HE2.out]; exact hdn
end Go.Proofs.Ytmlmpjokmbgmcaa
