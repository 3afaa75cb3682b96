/- The reference's Flash: there, Program, Erase, Fuse, Cut, Start: by contracts. -/
import Derived.Test.YtmlmpjokmbgmcaaRFl
namespace Go.Proofs.Ytmlmpjokmbgmcaa
open Go.RowKit
section
variable {gm gB : Nat} {f : Fl} {w : World}
theorem FuseOk.congr {f' : Fl} {fu : Bool} {fz : Int} (h : FuseOk f fu fz) (h1 : f'.there = f.there) (h2 : f'.left = f.left) (h3 : f'.down = f.down) : FuseOk f' fu fz :=
  ⟨fun e => by rw [h1] at e; rw [h2]; exact h.yes e, fun e => by rw [h1] at e; rw [h3]; exact h.no e, h.lo, h.hi⟩
theorem RfAt.put (h : RfAt w gm gB f) (a : Nat) (x : UInt8) (ha : a < 3584) : RDone gm gB (f.put a x) w (w.setCell ⟨gB, a, none⟩ (.int .u8 ((f.bs a &&& x).toNat : Int))) := by
  obtain ⟨h1, h2, fu, fz, h3, h4⟩ := h
  have hb := h2.set (f' := f.put a x) ha (fun i hi => by simp [Fl.put, hi])
  have e : (f.put a x).bs a = f.bs a &&& x := by simp [Fl.put]
  rw [e] at hb
  exact ⟨⟨h1, hb, fu, fz, h3.congr rfl rfl rfl, (h4.keep (heap_setCell_other w ⟨gB, a, none⟩ gm _ h1))⟩, gr2_b w gm gB a _⟩
theorem RfAt.ff (a k : Nat) (ha : a + k < 3584) (f' : Fl) (hf : f' = f.fill a k) (h0 : RfAt w gm gB f') : RDone gm gB (f.fill a (k + 1)) w (w.setCell ⟨gB, a + k, none⟩ (.int .u8 255)) := by
  subst hf
  obtain ⟨h1, h2, fu, fz, h3, h4⟩ := h0
  have hb := h2.set (f' := f.fill a (k + 1)) ha (fun i hi => by
    simp only [Fl.fill]
    by_cases e : a ≤ i ∧ i < a + k
    · rw [if_pos e, if_pos (by omega)]
    · rw [if_neg e, if_neg (by omega)])
  have e : (f.fill a (k + 1)).bs (a + k) = 255 := by simp only [Fl.fill]; rw [if_pos (by omega)]
  rw [e] at hb
  exact ⟨⟨h1, hb, fu, fz, h3.congr rfl rfl rfl, (h4.keep (heap_setCell_other w ⟨gB, a + k, none⟩ gm _ h1))⟩, gr2_b w gm gB (a + k) _⟩
theorem RfAt.slot0 (h : RfAt w gm gB f) : w.cell? ⟨gm, 0, none⟩ = some (.slice (some ⟨gB, 0, none⟩) 3584 3584) := by obtain ⟨_, _, fu, fz, _, h4⟩ := h; exact h4.at_ (i := 0) (by omega)
theorem RfAt.off (h : RfAt w gm gB f) : w.cell? ⟨gm, 16, none⟩ = some (.bool f.down) := by obtain ⟨_, _, fu, fz, _, h4⟩ := h; exact h4.at_ (i := 16) (by omega)
theorem RfAt.cnt (h : RfAt w gm gB f) : w.cell? ⟨gm, 17, none⟩ = some (.int .i64 f.steps) := by obtain ⟨_, _, fu, fz, _, h4⟩ := h; exact h4.at_ (i := 17) (by omega)
theorem RfAt.tornW (h : RfAt w gm gB f) : w.cell? ⟨gm, 20, none⟩ = some (.int .i64 f.torn) := by obtain ⟨_, _, fu, fz, _, h4⟩ := h; exact h4.at_ (i := 20) (by omega)
theorem RfAt.wearC (h : RfAt w gm gB f) : w.cell? ⟨gm, 1, none⟩ = some (.int .i64 f.wear) := by obtain ⟨_, _, fu, fz, _, h4⟩ := h; exact h4.at_ (i := 1) (by omega)
theorem RfAt.erC (h : RfAt w gm gB f) {s : Nat} (hs : s < 14) : w.cell? ⟨gm, 2 + s, none⟩ = some (.int .i64 (f.er s)) := by
  obtain ⟨_, _, fu, fz, _, h4⟩ := h
  rw [h4.at_ (i := 2 + s) (by omega)]
  unfold rcell
  rw [if_neg (by omega), if_neg (by omega), if_pos (by omega), Nat.add_sub_cancel_left]
theorem RfAt.frz (h : RfAt w gm gB f) (i : Nat) : w.frozen? ⟨gm, i, none⟩ = false := by obtain ⟨_, _, fu, fz, _, h4⟩ := h; exact h4.frozen i
theorem RfAt.upEr (h : RfAt w gm gB f) (s : Nat) (hs : s < 14) : RDone gm gB (f.wearUp s) w (w.setCell ⟨gm, 2 + s, none⟩ (.int .i64 (f.er s + 1))) := by
  obtain ⟨h1, h2, fu, fz, h3, h4⟩ := h
  refine ⟨⟨h1, (h2.keep (heap_setCell_other w ⟨gm, 2 + s, none⟩ gB _ (fun e => h1 e.symm))).bits rfl, fu, fz, h3.congr rfl rfl rfl, h4.set fun i hi => ?_⟩, gr2_a w gm gB (2 + s) _⟩
  by_cases e : i = 2 + s
  · subst e
    rw [if_pos rfl]
    unfold rcell
    rw [if_neg (by omega), if_neg (by omega), if_pos (by omega), Nat.add_sub_cancel_left]
    simp [Fl.wearUp]
  · rw [if_neg e]
    unfold rcell
    by_cases e0 : i = 0
    · rw [if_pos e0, if_pos e0]
    · rw [if_neg e0, if_neg e0]
      by_cases e1 : i = 1
      · rw [if_pos e1, if_pos e1]; rfl
      · rw [if_neg e1, if_neg e1]
        by_cases e2 : i < 16
        · rw [if_pos e2, if_pos e2]; simp [Fl.wearUp, show i - 2 ≠ s by omega]
        · rw [if_neg e2, if_neg e2]; rfl
end
theorem rthere_yes (a n : Int) (w : World) (h : 0 ≤ n ∧ n ≤ 3584 ∧ 0 ≤ a ∧ a ≤ 3584 - n) : Calls Try.prog 54 #[.int .i64 a, .int .i64 n] w fun e w' => e = .returned (.bool true) ∧ w = w' := by
  obtain ⟨h1, h2, h3, h4⟩ := h
  have HD : Hid (decide (a ≤ 3584 - n) = true) := decide_eq_true h4
  clear h4
  go_enter Try.func54, Try.ntmps54
  go_wp2_with fail
  go_ret
  exact ⟨by show Ending.returned (.bool (decide (a ≤ 3584 - n))) = _; rw [HD.out], rfl⟩
theorem rthere_no (a n : Int) (w : World) (hn : -9223372036854775808 ≤ n ∧ n ≤ 9223372036854775807) (h : ¬ (0 ≤ n ∧ n ≤ 3584 ∧ 0 ≤ a ∧ a ≤ 3584 - n)) : Calls Try.prog 54 #[.int .i64 a, .int .i64 n] w fun e w' => e = .returned (.bool false) ∧ w = w' := by
  by_cases h1 : 0 ≤ n
  · by_cases h2 : n ≤ 3584
    · by_cases h3 : 0 ≤ a
      · have HD : Hid (decide (a ≤ 3584 - n) = false) := decide_eq_false (fun h4 => h ⟨h1, h2, h3, h4⟩)
        clear h hn
        go_enter Try.func54, Try.ntmps54
        go_wp2_with fail
        go_ret
        exact ⟨by show Ending.returned (.bool (decide (a ≤ 3584 - n))) = _; rw [HD.out], rfl⟩
      · have h3' : a < 0 := by omega
        clear h hn h3
        go_enter Try.func54, Try.ntmps54
        go_wp2_with fail
        go_ret
        exact ⟨rfl, rfl⟩
    · have h2' : 3584 < n := by omega
      clear h hn h2
      go_enter Try.func54, Try.ntmps54
      go_wp2_with fail
      go_ret
      exact ⟨rfl, rfl⟩
  · have h1' : n < 0 := by omega
    clear h hn h1
    go_enter Try.func54, Try.ntmps54
    go_wp2_with fail
    go_ret
    exact ⟨rfl, rfl⟩
theorem step_down (f : Fl) (hs : f.stepB = true) : f.stepF.down = f.down := by
  unfold Fl.stepF
  unfold Fl.stepB at hs
  split
  · rename_i h
    rw [if_pos h] at hs
    rw [if_pos (by simpa using hs)]; rfl
  · rfl
def RProgOk (gm gB : Nat) (r : Fl × Int) (w : World) (e : Ending) (w' : World) : Prop := e = .returned (.int .i64 r.2) ∧ Hid (RDone gm gB r.1 w w')
set_option maxRecDepth 100000 in
set_option maxHeartbeats 3200000 in
theorem rprog_ok (gm gB a B n cap : Nat) (A : Option Addr) (l : List UInt8) (f : Fl) (w : World) (hf : RfAt w gm gB f) (hl : Row w B A n (bv l)) (hA : 0 < n → ∀ b o, A = some ⟨b, o, none⟩ → b ≠ gm ∧ b ≠ gB) (hB : B ≤ w.heap.size) (hd : f.down = false) (ha : a + n ≤ 3584)
    (h0 : 0 ≤ f.steps) (h1 : f.steps ≤ 9223372036854770000) :
    Calls Try.prog 24 #[.pointer (some ⟨gm, 0, none⟩), .int .i64 (a : Int), .slice A n cap] w (RProgOk gm gB (f.prog a l) w) := by
  have HM := Lib.hid (rthere_yes (a : Int) (n : Int) w ⟨by omega, by omega, by omega, by omega⟩)
  have hoff := hf.off
  rw [hd] at hoff
  have HBL := Lib.hid hl.blen
  have HA := Lib.hid hA
  have HF := Lib.hid hf
  have HL := Lib.hid hl
  have HS0 := Lib.hid h0
  have HS1 := Lib.hid h1
  have HD0 := Lib.hid hd
  clear hd hf hl hA h0 h1
  go_enter Try.func24, Try.ntmps24
  go_wp2_with fail
  refine HM.out.mono ?_
  rintro e w' ⟨rfl, rfl⟩
  go_wp2_with fail
  go_loopw [20] (fun i wr => ∃ (k : Nat) (fk : Fl), k ≤ n ∧ i = .int .i64 k ∧ Hid (RDone gm gB fk w wr) ∧ Hid (f.prog a l = fk.prog (a + k) (l.drop k)) ∧ Hid (fk.steps = f.steps + k) ∧ Hid (fk.down = false)) (fun i _ => n - (intOf i).toNat)
  case atStart => exact ⟨0, f, by omega, rfl, ⟨HF.out, Gr2.refl _ _ _⟩, rfl, by show _ = _; omega, HD0⟩
  case round =>
    obtain ⟨k, fk, hk, rfl, hdn, hpr, hst, hdw⟩ := hrel
    by_cases hlt : k < n
    · have hrow := HL.out.gr2 HA.out hdn.out.2 hB
      obtain ⟨b, o, rfl, _, hkl, hcell⟩ := hrow.byteAt hlt
      have HSTEP := Lib.hid (rstep_any gm gB fk wr hdn.out.1 hdw.out (by have := hst.out; have := HS0.out; omega) (by have := hst.out; have := HS1.out; omega))
      have hak : a + k < 3584 := by omega
      have haki : (a : Int) + (k : Int) < 3584 := by omega
      clear hrow
      cases hb : fk.stepB with
      | true =>
        have hnx := Lib.hid (Fl.prog_drop hpr.out hkl hb)
        rw [hb] at HSTEP
        have HST : Hid (fk.stepF.steps = f.steps + ((k + 1 : Nat) : Int)) := by show _ = _; rw [Fl.stepF_steps, hst.out]; omega
        have HDW : Hid (fk.stepF.down = false) := (step_down fk hb).trans hdw.out
        clear hb
        generalize l[k] = x at *
        generalize fk.stepF = f2 at *
        go_wp2_with fail
        refine HSTEP.out.mono ?_
        rintro e w2 ⟨rfl, hd2⟩
        have hc0 := hd2.out.1.slot0
        have hcb := hd2.out.1.2.1.at_ (i := a + k) hak
        have hfz := hd2.out.1.2.1.frozen (a + k)
        have hput := Lib.hid (hd2.out.1.put (a + k) x hak)
        go_wp2_with fail
        have HD : Hid (RDone gm gB (f2.put (a + k) x) w (w2.setCell ⟨gB, a + k, none⟩ (.int .u8 (bits .and .u8 ((f2.bs (a + k)).toNat : Int) (x.toNat : Int))))) := by
          rw [u8_and_nat _ _ (CrcM.b_lt _) (CrcM.b_lt _), ← UInt8.toNat_and]
          exact (hdn.out.trans hd2.out).trans hput.out
        clear hput hd2 hdn hcb hfz hc0
        go_roundw
        case rel => exact ⟨k + 1, _, by omega, by go_num, HD, hnx.out, HST, HDW⟩
        case measure => simp [intOf]; omega
      | false =>
        have hnx := Lib.hid (Fl.prog_torn hpr.out hkl hb)
        rw [hb] at HSTEP
        have HT : Hid (fk.stepF.torn = fk.torn) := Fl.stepF_torn fk
        clear hb
        generalize l[k] = x at *
        generalize fk.torn = tn at *
        generalize fk.stepF = f2 at *
        go_wp2_with fail
        refine HSTEP.out.mono ?_
        rintro e w2 ⟨rfl, hd2⟩
        have hc0 := hd2.out.1.slot0
        have hcb := hd2.out.1.2.1.at_ (i := a + k) hak
        have hct := hd2.out.1.tornW
        rw [HT.out] at hct
        have hfz := hd2.out.1.2.1.frozen (a + k)
        have hput := Lib.hid (hd2.out.1.put (a + k) (x ||| UInt8.ofNat (tn % 256).toNat) hak)
        go_wp2_with fail
        go_region
        have HD : Hid (RDone gm gB (f2.put (a + k) (x ||| UInt8.ofNat (tn % 256).toNat)) w (w2.setCell ⟨gB, a + k, none⟩ (.int .u8 (bits .and .u8 ((f2.bs (a + k)).toNat : Int) (bits .or .u8 (x.toNat : Int) (tn % 256))))).drew) := by
          have e : tn % 256 = ((UInt8.ofNat (tn % 256).toNat).toNat : Int) := by rw [UInt8.toNat_ofNat']; omega
          generalize UInt8.ofNat (tn % 256).toNat = y at *
          rw [e, u8_or_nat _ _ (CrcM.b_lt _) (CrcM.b_lt _), ← UInt8.toNat_or, u8_and_nat _ _ (CrcM.b_lt _) (CrcM.b_lt _), ← UInt8.toNat_and]
          exact ((hdn.out.trans hd2.out).trans hput.out).drew
        clear hput hd2 hdn hcb hfz hc0 hct
        go_wp2_with fail
        go_ret
        refine ⟨?_, ?_⟩
        · rw [hnx.out]; rfl
        · rw [hnx.out]; exact HD
    · obtain rfl : n = k := by omega
      have HPR : Hid (f.prog a l = (fk, 0)) := by
        have h := hpr.out
        rw [List.drop_of_length_le (by have := HBL.out; omega)] at h
        exact h
      clear hpr
      go_wp2_with fail
      go_ret
      refine ⟨?_, ?_⟩
      · rw [HPR.out]; rfl
      · rw [HPR.out]; exact hdn
theorem rprog_bad (gm gB n cap : Nat) (a k : Int) (A : Option Addr) (f : Fl) (w : World) (hf : RfAt w gm gB f) (hn : (n : Int) ≤ 9223372036854775807) (hk : mayE f a n = k) (hk0 : k ≠ 0) :
    Calls Try.prog 24 #[.pointer (some ⟨gm, 0, none⟩), .int .i64 a, .slice A n cap] w fun e w' => e = .returned (.int .i64 k) ∧ w = w' := by
  have hoff := hf.off
  unfold mayE at hk
  cases hd : f.down with
  | true =>
    rw [hd] at hk hoff
    simp only [if_true] at hk
    have HK := Lib.hid hk
    clear hk hd hf
    go_enter Try.func24, Try.ntmps24
    go_wp2_with fail
    go_ret
    exact ⟨by rw [← HK.out]; rfl, rfl⟩
  | false =>
    rw [hd] at hk hoff
    simp only [Bool.false_eq_true, if_false] at hk
    have hbad : (n : Int) < 0 ∨ a < 0 ∨ 3584 - (n : Int) < a := by
      by_cases h : (n : Int) < 0 ∨ a < 0 ∨ 3584 - (n : Int) < a
      · exact h
      · rw [if_neg h] at hk; exact absurd hk.symm hk0
    rw [if_pos hbad] at hk
    have HM := Lib.hid (rthere_no a (n : Int) w ⟨by omega, hn⟩ (by omega))
    have HK := Lib.hid hk
    clear hk hd hf hbad hk0
    go_enter Try.func24, Try.ntmps24
    go_wp2_with fail
    refine HM.out.mono ?_
    rintro e w' ⟨rfl, rfl⟩
    go_wp2_with fail
    go_ret
    exact ⟨by rw [← HK.out]; rfl, rfl⟩
section
variable {gm gB : Nat} {f : Fl} {w : World}
end
end Go.Proofs.Ytmlmpjokmbgmcaa
