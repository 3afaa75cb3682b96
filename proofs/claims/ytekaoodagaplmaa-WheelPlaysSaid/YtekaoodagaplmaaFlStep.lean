/- Flash: a step, Program: by contracts. -/
import Derived.Test.YtekaoodagaplmaaFl
import Derived.Laws.LoneSync
import Derived.RegionTactic
import Derived.Laws.BitsAllLaws
import Derived.Deep.QuietTactic
import Derived.BigQuiet
import Derived.Deep.DeepCutAuto
namespace Go.Proofs.Ytekaoodagaplmaa
open Go.RowKit
theorem Done.trans {g : Nat} {f1 f2 : Fl} {w w1 w2 : World} (h1 : Done g f1 w w1) (h2 : Done g f2 w1 w2) : Done g f2 w w2 := ⟨h2.1, h1.2.trans h2.2⟩
theorem Done.drew {g : Nat} {f : Fl} {w w1 : World} (h : Done g f w w1) : Done g f w w1.drew := ⟨h.1, ⟨h.2.os, h.2.tape, h.2.output, h.2.size, h.2.block⟩⟩
theorem Row.apart {w w' : World} {B n g : Nat} {A : Option Addr} {xs : List Value} (h : Row w B A n xs) (hA : 0 < n → ∀ b o, A = some ⟨b, o, none⟩ → b ≠ g) (hg : w.grownBy w' (some g)) (hB : B ≤ w.heap.size) : Row w' B A n xs :=
  ⟨h.1, fun hn => by
    obtain ⟨b, o, e, hb, hc⟩ := h.2 hn
    refine ⟨b, o, e, hb, fun j u hu => ?_⟩
    rw [World.cell?_of_block (w := w) (w' := w') (a := ⟨b, o + j, none⟩) (hg.block b (by omega) (fun e' => hA hn b o e (by injection e')))]
    exact hc j u hu⟩
theorem add_fl (g : Nat) (f : Fl) (w : World) (hf : FlAt w g f) (h0 : -9223372036854775808 ≤ f.steps) (h1 : f.steps < 9223372036854775807) :
    Calls Try.prog 60 #[.pointer (some ⟨g, 3599, none⟩), .int .i64 1] w fun e w' => e = .returned (.int .i64 (f.steps + 1)) ∧ Hid (Done g f.tick w w') := by
  have hD : Hid (Done g f.tick w (w.setCell ⟨g, 3599, none⟩ (.int .i64 (f.steps + 1)))) := by
    refine hf.set 3599 _ _ (by omega) fun i hi => ?_
    by_cases e : i = 3599
    · subst e; rfl
    · rw [if_neg e]
      unfold Fl.cell
      by_cases h1 : i < 3584
      · rw [if_pos h1, if_pos h1]; rfl
      · rw [if_neg h1, if_neg h1]
        by_cases h2 : i < 3598
        · rw [if_pos h2, if_pos h2]; rfl
        · have : i = 3598 ∨ i = 3600 ∨ i = 3601 ∨ i = 3602 ∨ i = 3603 := by omega
          rcases this with rfl | rfl | rfl | rfl | rfl <;> rfl
  have hc : w.cell? ⟨g, 3599, none⟩ = some (.int .i64 f.steps) := hf.at_ (i := 3599) (by omega)
  have hz := hf.frozen 3599
  have hadd := run_call_add (P := Try.prog) Try.func62 (by kernel_rfl) (by kernel_rfl) (by kernel_rfl) .i64 (by kernel_rfl) (y := 1) (s := f.steps + 1) hc hz (by
    have : IntKind.i64.wrap (f.steps + 1) = f.steps + 1 := IntWalk.i64_in _ ⟨by omega, by omega⟩
    simp [go_sem, this])
  clear hf
  go_enter Try.func60, Try.ntmps60
  go_wp2
  go_ret
  exact ⟨rfl, hD⟩
theorem FlAt.at_there {W : World} {g : Nat} {f : Fl} (h : FlAt W g f) : W.cell? ⟨g, 3601, none⟩ = some (.bool f.there) := h.at_ (i := 3601) (by omega)
theorem FlAt.at_left {W : World} {g : Nat} {f : Fl} (h : FlAt W g f) : W.cell? ⟨g, 3602, none⟩ = some (.int .i64 f.left) := h.at_ (i := 3602) (by omega)
theorem FlAt.at_torn {W : World} {g : Nat} {f : Fl} (h : FlAt W g f) : W.cell? ⟨g, 3603, none⟩ = some (.int .i64 f.torn) := h.at_ (i := 3603) (by omega)
theorem FlAt.at_wear {W : World} {g : Nat} {f : Fl} (h : FlAt W g f) : W.cell? ⟨g, 3598, none⟩ = some (.int .i64 f.wear) := h.at_ (i := 3598) (by omega)
theorem FlAt.at_byte {W : World} {g : Nat} {f : Fl} (h : FlAt W g f) {i : Nat} (hi : i < 3584) : W.cell? ⟨g, i, none⟩ = some (.int .u8 ((f.bs i).toNat : Int)) := by
  rw [h.at_ (by omega)]; unfold Fl.cell; rw [if_pos hi]
/-- cells beyond the bytes and the counts: the same but one -/
theorem cell_tail {f f' : Fl} (k : Nat) (v : Value) (hk : 3598 ≤ k) (h1 : f'.bs = f.bs) (h2 : f'.er = f.er) (h : ∀ i, i = 3598 ∨ i = 3599 ∨ i = 3600 ∨ i = 3601 ∨ i = 3602 ∨ i = 3603 → f'.cell i = if i = k then v else f.cell i) :
    ∀ i, i < 3604 → f'.cell i = if i = k then v else f.cell i := by
  intro i hi
  by_cases h3 : i < 3598
  · rw [if_neg (by omega)]
    unfold Fl.cell
    by_cases h4 : i < 3584
    · rw [if_pos h4, if_pos h4, h1]
    · rw [if_neg h4, if_neg h4, if_pos h3, if_pos h3, h2]
  · exact h i (by omega)
set_option maxHeartbeats 800000 in
theorem flstep_any (g : Nat) (f : Fl) (w : World) (hf : FlAt w g f) (h0 : -9223372036854775808 ≤ f.steps) (h1 : f.steps < 9223372036854775807) (hl : f.left ≤ 9223372036854775807) :
    Calls Try.prog 57 #[.pointer (some ⟨g, 0, none⟩)] w fun e w' => e = .returned (.bool f.stepB) ∧ Hid (Done g f.stepF w w') := by
  have HADD := Lib.hid (add_fl g f w hf h0 h1)
  obtain ⟨f1, hf1⟩ : ∃ f1 : Fl, f.tick = f1 := ⟨_, rfl⟩
  rw [hf1] at HADD
  cases ht : f.there with
  | false =>
    have e1 : f.stepB = true := by unfold Fl.stepB; rw [ht]; rfl
    have e2 : f.stepF = f1 := by unfold Fl.stepF; rw [if_neg (by rw [ht]; decide)]; exact hf1
    have e3 : f1.there = false := by rw [← hf1]; exact ht
    rw [e1, e2]
    have E3 := Lib.hid e3
    clear e1 e2 e3 ht hf1 hf
    go_enter Try.func57, Try.ntmps57
    go_wp2_with fail
    refine HADD.out.mono ?_
    rintro e w1 ⟨rfl, hd⟩
    have hc := hd.out.1.at_there
    rw [E3.out] at hc
    go_wp2_with fail
    go_ret
    exact ⟨rfl, hd⟩
  | true =>
    have e3 : f1.there = true := by rw [← hf1]; exact ht
    have e4 : f1.left = f.left := by rw [← hf1]; rfl
    by_cases hp : 0 < f.left
    · have e1 : f.stepB = true := by unfold Fl.stepB; rw [ht]; simpa using hp
      have e2 : f.stepF = { f1 with left := f.left - 1 } := by unfold Fl.stepF; rw [if_pos ht, if_pos hp, hf1]
      rw [e1, e2]
      have E3 := Lib.hid e3
      have E4 := Lib.hid e4
      clear e1 e2 e3 e4 ht hf1 hf
      generalize f.left = L at *
      go_enter Try.func57, Try.ntmps57
      go_wp2_with fail
      refine HADD.out.mono ?_
      rintro e w1 ⟨rfl, hd⟩
      have hc := hd.out.1.at_there
      rw [E3.out] at hc
      have hc2 := hd.out.1.at_left
      rw [E4.out] at hc2
      have hfz := hd.out.1.frozen 3602
      have hD : Hid (Done g { f1 with left := L - 1 } w (w1.setCell ⟨g, 3602, none⟩ (.int .i64 (L - 1)))) := by
        refine hd.out.trans (hd.out.1.set 3602 _ _ (by omega) (cell_tail 3602 _ (by omega) rfl rfl ?_))
        intro i hi
        rcases hi with rfl | rfl | rfl | rfl | rfl | rfl <;> rfl
      clear hd
      go_wp2_with fail
      go_ret
      exact ⟨rfl, hD⟩
    · have e1 : f.stepB = false := by unfold Fl.stepB; rw [ht]; simpa using hp
      have e2 : f.stepF = { f1 with there := false, down := true } := by unfold Fl.stepF; rw [if_pos ht, if_neg hp, hf1]
      rw [e1, e2]
      have E3 := Lib.hid e3
      have E4 := Lib.hid e4
      clear e1 e2 e3 e4 ht hf1 hf
      generalize f.left = L at *
      go_enter Try.func57, Try.ntmps57
      go_wp2_with fail
      refine HADD.out.mono ?_
      rintro e w1 ⟨rfl, hd⟩
      have hc := hd.out.1.at_there
      rw [E3.out] at hc
      have hc2 := hd.out.1.at_left
      rw [E4.out] at hc2
      have hfz := hd.out.1.frozen 3601
      have hfz2 := hd.out.1.frozen 3600
      have hc3 := hd.out.1.at_down
      have hD1 : Done g { f1 with there := false } w1 (w1.setCell ⟨g, 3601, none⟩ (.bool false)) := by
        refine hd.out.1.set 3601 _ _ (by omega) (cell_tail 3601 _ (by omega) rfl rfl ?_)
        intro i hi
        rcases hi with rfl | rfl | rfl | rfl | rfl | rfl <;> rfl
      have hD : Hid (Done g { f1 with there := false, down := true } w ((w1.setCell ⟨g, 3601, none⟩ (.bool false)).setCell ⟨g, 3600, none⟩ (.bool true))) := by
        refine (hd.out.trans hD1).trans (hD1.1.set 3600 _ _ (by omega) (cell_tail 3600 _ (by omega) rfl rfl ?_))
        intro i hi
        rcases hi with rfl | rfl | rfl | rfl | rfl | rfl <;> rfl
      clear hd hD1
      go_wp2_with fail
      go_ret
      exact ⟨rfl, hD⟩
/-- byte a loses the bits that x has not -/
def Fl.put (f : Fl) (a : Nat) (x : UInt8) : Fl := { f with bs := fun i => if i = a then f.bs a &&& x else f.bs i }
def Fl.prog (f : Fl) (a : Nat) : List UInt8 → Fl × Int
  | [] => (f, 0)
  | x :: t => if f.stepB then (f.stepF.put a x).prog (a + 1) t else (f.stepF.put a (x ||| UInt8.ofNat (f.torn % 256).toNat), 11)
theorem Fl.cell_byte {f f' : Fl} (k : Nat) (hk : k < 3584) (hb : ∀ i, i ≠ k → f'.bs i = f.bs i) (h2 : f'.er = f.er) (h3 : f'.wear = f.wear) (h4 : f'.steps = f.steps) (h5 : f'.down = f.down) (h6 : f'.there = f.there) (h7 : f'.left = f.left) (h8 : f'.torn = f.torn) :
    ∀ i, i < 3604 → f'.cell i = if i = k then .int .u8 ((f'.bs k).toNat : Int) else f.cell i := by
  intro i _
  by_cases e : i = k
  · subst e; rw [if_pos rfl]; unfold Fl.cell; rw [if_pos hk]
  · rw [if_neg e]
    unfold Fl.cell
    rw [hb i e, h2, h3, h4, h5, h6, h7, h8]
theorem FlAt.put {W : World} {g : Nat} {f : Fl} (h : FlAt W g f) (a : Nat) (x : UInt8) (ha : a < 3584) : Done g (f.put a x) W (W.setCell ⟨g, a, none⟩ (.int .u8 ((f.bs a &&& x).toNat : Int))) := by
  refine h.set a _ _ (by omega) ?_
  have := Fl.cell_byte (f := f) (f' := f.put a x) a ha (fun i hi => by simp [Fl.put, hi]) rfl rfl rfl rfl rfl rfl rfl
  have e : (f.put a x).bs a = f.bs a &&& x := by simp [Fl.put]
  rwa [e] at this
theorem Fl.prog_drop {f fk : Fl} {a k : Nat} {l : List UInt8} (h : f.prog a l = fk.prog (a + k) (l.drop k)) (hk : k < l.length) (hs : fk.stepB = true) : f.prog a l = (fk.stepF.put (a + k) l[k]).prog (a + (k + 1)) (l.drop (k + 1)) := by
  rw [h, List.drop_eq_getElem_cons hk]
  show (if fk.stepB then _ else _) = _
  rw [if_pos hs]; rfl
theorem Fl.prog_torn {f fk : Fl} {a k : Nat} {l : List UInt8} (h : f.prog a l = fk.prog (a + k) (l.drop k)) (hk : k < l.length) (hs : fk.stepB = false) : f.prog a l = (fk.stepF.put (a + k) (l[k] ||| UInt8.ofNat (fk.torn % 256).toNat), 11) := by
  rw [h, List.drop_eq_getElem_cons hk]
  show (if fk.stepB then _ else _) = _
  rw [if_neg (by rw [hs]; decide)]
theorem Fl.stepF_steps (f : Fl) : f.stepF.steps = f.steps + 1 := by
  unfold Fl.stepF Fl.tick; split <;> (try split) <;> rfl
theorem Fl.stepF_torn (f : Fl) : f.stepF.torn = f.torn := by
  unfold Fl.stepF Fl.tick; split <;> (try split) <;> rfl
theorem Fl.stepF_left (f : Fl) (h : -9223372036854775808 ≤ f.left ∧ f.left ≤ 9223372036854775807) : -9223372036854775808 ≤ f.stepF.left ∧ f.stepF.left ≤ 9223372036854775807 := by
  unfold Fl.stepF Fl.tick; split
  · split
    · show -9223372036854775808 ≤ f.left - 1 ∧ f.left - 1 ≤ 9223372036854775807; omega
    · exact h
  · exact h
/-- what Program makes of it -/
def ProgOk (g : Nat) (r : Fl × Int) (w : World) (e : Ending) (w' : World) : Prop := e = .returned (.int .i64 r.2) ∧ Hid (Done g r.1 w w')
set_option maxHeartbeats 1600000 in
theorem prog_ok (g a B n cap : Nat) (A : Option Addr) (l : List UInt8) (f : Fl) (w : World) (hf : FlAt w g f) (hl : Row w B A n (bv l)) (hA : 0 < n → ∀ b o, A = some ⟨b, o, none⟩ → b ≠ g) (hB : B ≤ w.heap.size) (hd : f.down = false) (ha : a + n ≤ 3584)
    (h0 : -9223372036854775808 ≤ f.steps) (h1 : f.steps ≤ 9223372036854770000) (hle : -9223372036854775808 ≤ f.left ∧ f.left ≤ 9223372036854775807) :
    Calls Try.prog 51 #[.pointer (some ⟨g, 0, none⟩), .int .i64 (a : Int), .slice A n cap] w (ProgOk g (f.prog a l) w) := by
  have HM := Lib.hid (may_any g f a n 0 w hf (by omega) (mayE_yes hd ha))
  have HBL := Lib.hid hl.blen
  have HA := Lib.hid hA
  have HF := Lib.hid hf
  have HL := Lib.hid hl
  have HS0 := Lib.hid h0
  have HS1 := Lib.hid h1
  have HLE := Lib.hid hle
  clear hd hf hl hA h0 h1 hle
  go_enter Try.func51, Try.ntmps51
  go_wp2_with fail
  refine HM.out.mono ?_
  rintro e w' ⟨rfl, rfl⟩
  go_wp2_with fail
  go_loopw [20] (fun i wr => ∃ (k : Nat) (fk : Fl), k ≤ n ∧ i = .int .i64 k ∧ Hid (Done g fk w wr) ∧ Hid (f.prog a l = fk.prog (a + k) (l.drop k)) ∧ Hid (fk.steps = f.steps + k) ∧ Hid (-9223372036854775808 ≤ fk.left ∧ fk.left ≤ 9223372036854775807)) (fun i _ => n - (intOf i).toNat)
  case atStart => exact ⟨0, f, by omega, rfl, ⟨HF.out, ⟨rfl, rfl, rfl, Nat.le_refl _, fun _ _ _ => rfl⟩⟩, rfl, by show _ = _; omega, HLE.out⟩
  case round =>
    obtain ⟨k, fk, hk, rfl, hdn, hpr, hst, hlf⟩ := hrel
    by_cases hlt : k < n
    · have hrow := HL.out.apart HA.out hdn.out.2 hB
      obtain ⟨b, o, rfl, _, hkl, hcell⟩ := hrow.byteAt hlt
      have hstep := flstep_any g fk wr hdn.out.1 (by have := hst.out; have := HS0.out; omega) (by have := hst.out; have := HS1.out; omega) hlf.out.2
      have HSTEP := Lib.hid hstep
      clear hstep hrow
      cases hb : fk.stepB with
      | true =>
        have hnx := Lib.hid (Fl.prog_drop hpr.out hkl hb)
        rw [hb] at HSTEP
        have HST : Hid (fk.stepF.steps = f.steps + ((k + 1 : Nat) : Int)) := by show _ = _; rw [Fl.stepF_steps, hst.out]; omega
        have HLF := Lib.hid (Fl.stepF_left fk hlf.out)
        clear hb
        generalize l[k] = x at *
        generalize fk.stepF = f2 at *
        go_wp2_with fail
        refine HSTEP.out.mono ?_
        rintro e w2 ⟨rfl, hd2⟩
        have hcb := hd2.out.1.at_byte (i := a + k) (by omega)
        have hfz := hd2.out.1.frozen (a + k)
        have hput := Lib.hid (hd2.out.1.put (a + k) x (by omega))
        go_wp2_with fail
        go_region
        have HD : Hid (Done g (f2.put (a + k) x) w (w2.setCell ⟨g, a + k, none⟩ (.int .u8 (bits .and .u8 ((f2.bs (a + k)).toNat : Int) (x.toNat : Int)))).drew) := by
          rw [u8_and_nat _ _ (CrcM.b_lt _) (CrcM.b_lt _), ← UInt8.toNat_and]
          exact ((hdn.out.trans hd2.out).trans hput.out).drew
        clear hput hd2 hdn hcb hfz
        go_wp2_with fail
        go_roundw
        case rel => exact ⟨k + 1, _, by omega, by go_num, HD, hnx.out, HST, HLF⟩
        case measure => simp [intOf]; omega
      | false =>
        have hnx := Lib.hid (Fl.prog_torn hpr.out hkl hb)
        rw [hb] at HSTEP
        have HT : Hid (fk.stepF.torn = fk.torn) := Fl.stepF_torn fk
        clear hb
        generalize l[k] = x at *
        generalize fk.torn = tn at *
        generalize fk.stepF = f2 at *
        go_wp2_with fail
        refine HSTEP.out.mono ?_
        rintro e w2 ⟨rfl, hd2⟩
        have hcb := hd2.out.1.at_byte (i := a + k) (by omega)
        have hct := hd2.out.1.at_torn
        rw [HT.out] at hct
        have hfz := hd2.out.1.frozen (a + k)
        have hput := Lib.hid (hd2.out.1.put (a + k) (x ||| UInt8.ofNat (tn % 256).toNat) (by omega))
        go_wp2_with fail
        go_region
        have HD : Hid (Done g (f2.put (a + k) (x ||| UInt8.ofNat (tn % 256).toNat)) w (w2.setCell ⟨g, a + k, none⟩ (.int .u8 (bits .and .u8 ((f2.bs (a + k)).toNat : Int) (bits .or .u8 (x.toNat : Int) (tn % 256))))).drew) := by
          have e : tn % 256 = ((UInt8.ofNat (tn % 256).toNat).toNat : Int) := by rw [UInt8.toNat_ofNat']; omega
          generalize UInt8.ofNat (tn % 256).toNat = y at *
          rw [e, u8_or_nat _ _ (CrcM.b_lt _) (CrcM.b_lt _), ← UInt8.toNat_or, u8_and_nat _ _ (CrcM.b_lt _) (CrcM.b_lt _), ← UInt8.toNat_and]
          exact ((hdn.out.trans hd2.out).trans hput.out).drew
        clear hput hd2 hdn hcb hfz
        go_wp2_with fail
        go_ret
        refine ⟨?_, ?_⟩
        · rw [hnx.out]; rfl
        · rw [hnx.out]; exact HD
    · obtain rfl : n = k := by omega
      have HPR : Hid (f.prog a l = (fk, 0)) := by
        have h := hpr.out
        rw [List.drop_of_length_le (by have := HBL.out; omega)] at h
        exact h
      clear hpr
      go_wp2_with fail
      go_ret
      refine ⟨?_, ?_⟩
      · rw [HPR.out]; rfl
      · rw [HPR.out]; exact hdn
theorem prog_bad (p : Option Addr) (a k : Int) (n cap : Nat) (A : Option Addr) (w : World) (hm : Calls Try.prog 41 #[.pointer p, .int .i64 a, .int .i64 (n : Int)] w fun e w' => e = .returned (.int .i64 k) ∧ w = w') (hk : k ≠ 0) :
    Calls Try.prog 51 #[.pointer p, .int .i64 a, .slice A n cap] w fun e w' => e = .returned (.int .i64 k) ∧ w = w' := by
  have hk' : (k != 0) = true := by simpa using hk
  have HM := Lib.hid hm
  clear hm hk
  go_enter Try.func51, Try.ntmps51
  go_wp2_with fail
  refine HM.out.mono ?_
  rintro e w' ⟨rfl, rfl⟩
  go_wp2_with fail
  go_ret
  exact ⟨rfl, rfl⟩
theorem blank_bad (p : Option Addr) (a n k : Int) (w : World) (hm : Calls Try.prog 41 #[.pointer p, .int .i64 a, .int .i64 n] w fun e w' => e = .returned (.int .i64 k) ∧ w = w') (hk : k ≠ 0) :
    Calls Try.prog 47 #[.pointer p, .int .i64 a, .int .i64 n] w fun e w' => e = .returned (.bool false) ∧ w = w' := by
  have hk' : (k != 0) = true := by simpa using hk
  have HM := Lib.hid (read_bad p a n k w hm hk)
  clear hm hk
  go_enter Try.func47, Try.ntmps47
  go_wp2_with fail
  refine HM.out.mono ?_
  rintro e w' ⟨rfl, rfl⟩
  go_wp2_with fail
  go_ret
  exact ⟨rfl, rfl⟩
def allFF (l : List UInt8) : Bool := l.all fun x => x == 255
theorem allFF_no {l : List UInt8} {k : Nat} (hk : k < l.length) (h : l[k] ≠ 255) : allFF l = false := by
  unfold allFF
  rw [List.all_eq_false]
  exact ⟨l[k], List.getElem_mem hk, by simpa using h⟩
set_option maxHeartbeats 800000 in
theorem blank_ok (g a n : Nat) (f : Fl) (w : World) (hf : FlAt w g f) (hd : f.down = false) (h : a + n ≤ 3584) :
    Calls Try.prog 47 #[.pointer (some ⟨g, 0, none⟩), .int .i64 (a : Int), .int .i64 (n : Int)] w fun e w' => e = .returned (.bool (allFF (f.sub a n))) ∧ Hid (Below w.heap.size w w') := by
  have HR := Lib.hid (read_ok g a n f w hf hd h)
  have hsl := f.sub_length a n
  clear hf hd
  generalize f.sub a n = L at *
  have HSL := Lib.hid hsl
  clear hsl
  go_enter Try.func47, Try.ntmps47
  go_wp2_with fail
  refine HR.out.mono ?_
  rintro e w1 ⟨A1, n1, c1, rfl, hn1, hown, hb⟩
  obtain rfl : n1 = n := hn1.out.trans HSL.out
  have HRW := Lib.hid (Row.of_own hown.out)
  clear hown hn1
  go_wp2_with fail
  go_loop [22] (fun i => ∃ k : Nat, k ≤ n1 ∧ i = .int .i64 k ∧ Hid (∀ j (hj : j < L.length), j < k → L[j] = 255)) (fun i => n1 - (intOf i).toNat)
  case atStart => exact ⟨0, by omega, rfl, (show ∀ j (hj : j < L.length), j < 0 → L[j] = 255 from fun j _ hj => absurd hj (by omega))⟩
  case round =>
    obtain ⟨k, hk, rfl, hall⟩ := hrel
    by_cases hlt : k < n1
    · obtain ⟨b, o, rfl, _, hkl, hcell⟩ := HRW.out.byteAt hlt
      by_cases hx : L[k] = 255
      · have e6 : ((L[k].toNat : Int) != 255) = false := by rw [hx]; rfl
        have hall2 : Hid (∀ j (hj : j < L.length), j < k + 1 → L[j] = 255) := by
          intro j hj hjk
          by_cases e : j < k
          · exact hall.out j hj e
          · obtain rfl : j = k := by omega
            exact hx
        clear hx hall
        go_wp2_with fail
        go_round
        case rel => exact ⟨k + 1, by omega, by go_num, hall2⟩
        case measure => simp [intOf]; omega
      · have e6 : ((L[k].toNat : Int) != 255) = true := bne_iff_ne.2 fun e => hx (UInt8.toNat.inj (by rw [show L[k].toNat = 255 by omega]; rfl))
        have HNO := Lib.hid (allFF_no hkl hx)
        clear hx hall
        go_wp2_with fail
        go_ret
        exact ⟨by rw [HNO.out]; rfl, hb⟩
    · obtain rfl : n1 = k := by omega
      have HY : Hid (allFF L = true) := by
        show allFF L = true
        unfold allFF
        rw [List.all_eq_true]
        intro x hx
        obtain ⟨j, hj, rfl⟩ := List.getElem_of_mem hx
        have := hall.out j hj (by have := HSL.out; omega)
        simpa using this
      clear hall
      go_wp2_with fail
      go_ret
      exact ⟨by rw [HY.out]; rfl, hb⟩
theorem start_any (g : Nat) (f : Fl) (w : World) (hf : FlAt w g f) : Calls Try.prog 14 #[.pointer (some ⟨g, 0, none⟩)] w fun e w' => e = .returned (.tuple #[]) ∧ Hid (Done g { f with down := false } w w') := by
  have hc := hf.at_down
  have hz := hf.frozen 3600
  have HD := Lib.hid (hf.set 3600 (.bool false) { f with down := false } (by omega) (cell_tail 3600 _ (by omega) rfl rfl (by intro i hi; rcases hi with rfl | rfl | rfl | rfl | rfl | rfl <;> rfl)))
  clear hf
  go_enter Try.func14, Try.ntmps14
  go_wp2_with fail
  go_end0
  exact ⟨rfl, HD⟩
theorem fuse_any (g : Nat) (n t : Int) (f : Fl) (w : World) (hf : FlAt w g f) : Calls Try.prog 10 #[.pointer (some ⟨g, 0, none⟩), .int .i64 n, .int .i64 t] w fun e w' => e = .returned (.tuple #[]) ∧ Hid (Done g { f with there := decide (0 ≤ n), left := n, torn := t } w w') := by
  have hc1 := hf.at_there
  have hc2 := hf.at_left
  have hc3 := hf.at_torn
  have hz1 := hf.frozen 3601
  have hz2 := hf.frozen 3602
  have hz3 := hf.frozen 3603
  have h1 := hf.set 3601 (.bool (decide (0 ≤ n))) { f with there := decide (0 ≤ n) } (by omega) (cell_tail 3601 _ (by omega) rfl rfl (by intro i hi; rcases hi with rfl | rfl | rfl | rfl | rfl | rfl <;> rfl))
  have h2 := h1.1.set 3602 (.int .i64 n) { f with there := decide (0 ≤ n), left := n } (by omega) (cell_tail 3602 _ (by omega) rfl rfl (by intro i hi; rcases hi with rfl | rfl | rfl | rfl | rfl | rfl <;> rfl))
  have h3 := h2.1.set 3603 (.int .i64 t) { f with there := decide (0 ≤ n), left := n, torn := t } (by omega) (cell_tail 3603 _ (by omega) rfl rfl (by intro i hi; rcases hi with rfl | rfl | rfl | rfl | rfl | rfl <;> rfl))
  have HD := Lib.hid ((h1.trans h2).trans h3)
  clear hf h1 h2 h3
  go_enter Try.func10, Try.ntmps10
  go_wp2_with fail
  go_end0
  exact ⟨rfl, HD⟩
end Go.Proofs.Ytekaoodagaplmaa
