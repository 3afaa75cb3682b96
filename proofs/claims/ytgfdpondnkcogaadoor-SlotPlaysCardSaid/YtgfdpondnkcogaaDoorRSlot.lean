/- The reference's clear, place, ReadSlot, WriteSlot: by contracts. The reference's WriteSlot: by contract. slot.Of, Read, Write, Right, where they refuse: by contracts. The reference's SlotOf, RightSlot: by contracts. Writing a slot, and telling whether it is right, ours and the reference's, whatever stands there: one answer each. slot.Of and the reference's SlotOf: one answer each. -/
import Derived.Test.YtgfdpondnkcogaaDoorSl
import Derived.Test.YtgfdpondnkcogaaDoorRFlash
import Derived.Test.YtgfdpondnkcogaaDoorLaw
import Derived.Test.YtgfdpondnkcogaaDoorSl2
import Derived.Test.YtgfdpondnkcogaaDoorRDig
import Derived.Deep.RegionHeld3
import Derived.Test.YtgfdpondnkcogaaDoorSlOtZ
namespace Go.Proofs.YtgfdpondnkcogaaDoor
open Go.RowKit
theorem rdone_refl {gm gB : Nat} {f : Fl} {w : World} (h : RfAt w gm gB f) : RDone gm gB f w w := ⟨h, Gr2.refl _ _ _⟩
theorem rdone_after {gm gB : Nat} {f : Fl} {w w1 w2 : World} (hb : Below w.heap.size w w1) (h : RDone gm gB f w1 w2) : RDone gm gB f w w2 :=
  ⟨h.1, ((Gr2.refl gm gB w).below hb).trans h.2⟩
theorem rblank_at {gm gB : Nat} {f : Fl} {w : World} (a n : Nat) (ai ni : Int) (h1 : ai = (a : Int)) (h2 : ni = (n : Int)) (hf : RfAt w gm gB f) (hd : f.down = false) (h : a + n ≤ 3584) :
    Calls Tryd.prog 55 #[.pointer (some ⟨gm, 0, none⟩), .int .i64 ai, .int .i64 ni] w fun e w' => e = .returned (.bool (allFF (f.sub a n))) ∧ Hid (Below w.heap.size w w') := by
  subst h1 h2
  exact rblank_ok gm gB a n f w hf hd h
set_option maxRecDepth 100000 in
theorem rclear_any (gm gB s : Nat) (f : Fl) (w : World) (K si : Int) (hsi : si = (s : Int)) (hf : RfAt w gm gB f) (hd : f.down = false) (hs : s < 14) (hok : f.Ok K) (hK : K ≤ 2000000) :
    Calls Tryd.prog 36 #[.pointer (some ⟨gm, 0, none⟩), .int .i64 si] w (RProgOk gm gB (f.clean1 s) w) := by
  subst hsi
  have HB := Lib.hid (fun ai (hai : ai = ((256 * s : Nat) : Int)) => rblank_at (gm := gm) (gB := gB) (w := w) (256 * s) 256 ai 256 hai rfl hf hd (by omega))
  have HE := Lib.hid (fun W (hW : RfAt W gm gB f) => rerase_ok gm gB s f W hW hd hs (hok.2.2.2.1 s) (by have := hok.2.2.2.2; omega) (by have := hok.1; omega) (by have := hok.2.1; omega))
  have HF := Lib.hid hf
  have HC : Hid (f.clean1 s = if allFF (f.sub (256 * s) 256) then (f, 0) else f.erase s) := rfl
  clear hf hok
  cases hff : allFF (f.sub (256 * s) 256) with
  | true =>
    rw [hff] at HB HC
    have HC1 : Hid (f.clean1 s = (f, 0)) := HC
    clear HC hff
    go_enter Tryd.func36, Tryd.ntmps36
    go_wp2_with fail
    refine (HB.out _ (by push_cast; omega)).mono ?_
    rintro e w1 ⟨rfl, hb⟩
    go_wp2_with fail
    go_ret
    exact ⟨by rw [HC1.out]; rfl, by rw [HC1.out]; exact rdone_after hb.out (rdone_refl (HF.out.below hb.out))⟩
  | false =>
    rw [hff] at HB HC
    have HC1 : Hid (f.clean1 s = f.erase s) := HC
    clear HC hff
    go_enter Tryd.func36, Tryd.ntmps36
    go_wp2_with fail
    refine (HB.out _ (by push_cast; omega)).mono ?_
    rintro e w1 ⟨rfl, hb⟩
    go_wp2_with fail
    refine (HE.out w1 (HF.out.below hb.out)).mono ?_
    rintro e w2 ⟨rfl, hd2⟩
    go_wp2_with fail
    go_ret
    exact ⟨by rw [HC1.out]; rfl, by rw [HC1.out]; exact rdone_after hb.out hd2.out⟩
theorem rplace_any (s a : Nat) (w : World) (hs : s = 0 ∨ s = 1) (h : a = 2 + 2 * s) : Calls Tryd.prog 37 #[.int .i64 (s : Int)] w fun e w' => e = .returned (.int .i64 ((256 * a : Nat) : Int)) ∧ w = w' := by
  rcases hs with rfl | rfl <;> subst h
  all_goals
    go_enter Tryd.func37, Tryd.ntmps37
    go_wp2_with fail
    go_ret
    exact ⟨rfl, rfl⟩
/-- what is read of a slot -/
def SRd (f : Fl) (x n : Int) (d : List UInt8) (k : Int) : Prop :=
  ((¬ (x = 0 ∨ x = 1) ∨ n < 0 ∨ 512 < n) ∧ d = [] ∧ k = 1) ∨ ((x = 0 ∨ x = 1) ∧ 0 ≤ n ∧ n ≤ 512 ∧ f.down = true ∧ d = [] ∧ k = 11) ∨ (∃ s m : Nat, x = s ∧ (s = 0 ∨ s = 1) ∧ n = m ∧ m ≤ 512 ∧ f.down = false ∧ d = f.sub (256 * (2 + 2 * s)) m ∧ k = 0)
theorem srd_any (f : Fl) (x n : Int) : ∃ d k, SRd f x n d k ∧ d.length ≤ 512 := by
  by_cases hx : x = 0 ∨ x = 1
  · by_cases hn : n < 0 ∨ 512 < n
    · exact ⟨_, _, .inl ⟨.inr hn, rfl, rfl⟩, by simp⟩
    · cases hd : f.down with
      | true => exact ⟨_, _, .inr (.inl ⟨hx, by omega, by omega, hd, rfl, rfl⟩), by simp⟩
      | false => exact ⟨_, _, .inr (.inr ⟨x.toNat, n.toNat, by omega, by omega, by omega, by omega, hd, rfl, rfl⟩), by rw [Fl.sub_length]; omega⟩
  · exact ⟨_, _, .inl ⟨.inl hx, rfl, rfl⟩, by simp⟩
def SBytesK (d : List UInt8) (k : Int) (w : World) (e : Ending) (w' : World) : Prop :=
  ∃ A n c, e = .returned (.tuple #[.slice A n c, .int .i64 k]) ∧ Hid (n = d.length) ∧ Hid (Row w' w'.heap.size A n (bv d)) ∧ Hid (Below w.heap.size w w')
set_option maxRecDepth 100000 in
theorem rsread_any (gm gB : Nat) (f : Fl) (x n : Int) (d : List UInt8) (k : Int) (w : World) (hn1 : -9223372036854775808 ≤ n) (hn2 : n ≤ 9223372036854775807) (hf : RfAt w gm gB f) (h : SRd f x n d k) :
    Calls Tryd.prog 16 #[.pointer (some ⟨gm, 0, none⟩), .int .i64 x, .int .i64 n] w (SBytesK d k w) := by
  rcases h with ⟨h, rfl, rfl⟩ | ⟨hx, h1, h2, hd, rfl, rfl⟩ | ⟨s, m, rfl, hs, rfl, hm, hd, rfl, rfl⟩
  · clear hf
    have hbr : x < 0 ∨ (¬ x < 0 ∧ 1 < x) ∨ (¬ x < 0 ∧ ¬ 1 < x ∧ n < 0) ∨ (¬ x < 0 ∧ ¬ 1 < x ∧ ¬ n < 0 ∧ 512 < n) := by omega
    clear h
    rcases hbr with h | ⟨h, h'⟩ | ⟨h, h', h3⟩ | ⟨h, h', h3, h4⟩
    all_goals
      go_enter Tryd.func16, Tryd.ntmps16
      go_wp2_with fail
      go_ret2
      exact ⟨none, 0, 0, rfl, rfl, Row.nil _ _ _, Below.refl _ _⟩
  · obtain ⟨s, rfl⟩ : ∃ s : Nat, x = s := ⟨x.toNat, by omega⟩
    have HP := Lib.hid (rplace_any s (2 + 2 * s) w (by omega) rfl)
    have HR := Lib.hid (rread_bad gm gB ((256 * (2 + 2 * s) : Nat) : Int) n 11 f w hf ⟨hn1, hn2⟩ (by unfold mayE; rw [hd]; rfl) (by decide))
    have e1 : ¬ ((s : Int) < 0) := by omega
    have e2 : ¬ ((1 : Int) < s) := by omega
    have e3 : ¬ (n < 0) := by omega
    have e4 : ¬ ((512 : Int) < n) := by omega
    generalize ((256 * (2 + 2 * s) : Nat) : Int) = pp at *
    clear hf hx
    go_enter Tryd.func16, Tryd.ntmps16
    go_wp2_with fail
    refine HP.out.mono ?_
    rintro e w1 ⟨rfl, rfl⟩
    go_wp2_with fail
    refine HR.out.mono ?_
    rintro e w1 ⟨rfl, rfl⟩
    go_wp2_with fail
    go_ret2
    exact ⟨none, 0, 0, rfl, rfl, Row.nil _ _ _, Below.refl _ _⟩
  · have HP := Lib.hid (rplace_any s (2 + 2 * s) w hs rfl)
    have HR := Lib.hid (rread_ok gm gB (256 * (2 + 2 * s)) m f w hf hd (by omega))
    have e1 : ¬ ((s : Int) < 0) := by omega
    have e2 : ¬ ((1 : Int) < s) := by omega
    have e3 : ¬ ((m : Int) < 0) := by omega
    have e4 : ¬ ((512 : Int) < m) := by omega
    generalize ((256 * (2 + 2 * s) : Nat) : Int) = pp at *
    clear hf hs
    go_enter Tryd.func16, Tryd.ntmps16
    go_wp2_with fail
    refine HP.out.mono ?_
    rintro e w1 ⟨rfl, rfl⟩
    go_wp2_with fail
    refine HR.out.mono ?_
    rintro e w1 ⟨A, n, c, rfl, hn, hown, hb⟩
    go_wp2_with fail
    go_ret2
    exact ⟨A, n, c, rfl, hn, Row.of_own hown.out, hb⟩
end Go.Proofs.YtgfdpondnkcogaaDoor
namespace Go.Proofs.YtgfdpondnkcogaaDoor
open Go.RowKit
theorem rprog_at15 {gm gB : Nat} (a B n cap : Nat) (A : Option Addr) (l : List UInt8) (f : Fl) (w : World) (ai : Int) (hai : ai = (a : Nat)) (hf : RfAt w gm gB f) (hl : Row w B A n (bv l)) (hA : 0 < n → ∀ b o, A = some ⟨b, o, none⟩ → b ≠ gm ∧ b ≠ gB) (hB : B ≤ w.heap.size) (hd : f.down = false) (ha : a + n ≤ 3584)
    (h0 : 0 ≤ f.steps) (h1 : f.steps ≤ 9223372036854770000) :
    Calls Tryd.prog 22 #[.pointer (some ⟨gm, 0, none⟩), .int .i64 ai, .slice A n cap] w (RProgOk gm gB (f.prog a l) w) := by
  subst hai; exact rprog_ok gm gB a B n cap A l f w hf hl hA hB hd ha h0 h1
theorem rswrite_no (gm : Nat) (x : Int) (n cap : Nat) (A : Option Addr) (w : World) (h : ¬ (x = 0 ∨ x = 1) ∨ n < 1 ∨ 512 < n) :
    Calls Tryd.prog 14 #[.pointer (some ⟨gm, 0, none⟩), .int .i64 x, .slice A n cap] w fun e w' => e = .returned (.int .i64 1) ∧ w = w' := by
  have hbr : x < 0 ∨ (¬ x < 0 ∧ 1 < x) ∨ (¬ x < 0 ∧ ¬ 1 < x ∧ (n : Int) < 1) ∨ (¬ x < 0 ∧ ¬ 1 < x ∧ ¬ (n : Int) < 1 ∧ 512 < (n : Int)) := by omega
  clear h
  rcases hbr with h | ⟨h, h'⟩ | ⟨h, h', h3⟩ | ⟨h, h', h3, h4⟩
  all_goals
    go_enter Tryd.func14, Tryd.ntmps14
    go_wp2_with fail
    go_ret
    exact ⟨rfl, rfl⟩
theorem rswrite_down (gm gB s : Nat) (n cap : Nat) (A : Option Addr) (f : Fl) (w : World) (hf : RfAt w gm gB f) (hd : f.down = true) (hs : s = 0 ∨ s = 1) (h1 : 1 ≤ n) (h2 : n ≤ 512) :
    Calls Tryd.prog 14 #[.pointer (some ⟨gm, 0, none⟩), .int .i64 (s : Int), .slice A n cap] w fun e w' => e = .returned (.int .i64 11) ∧ w = w' := by
  have hoff := hf.off
  rw [hd] at hoff
  have e3 : ¬ ((n : Int) < 1) := by omega
  have e4 : ¬ ((512 : Int) < n) := by omega
  clear hf
  rcases hs with rfl | rfl
  all_goals
    go_enter Tryd.func14, Tryd.ntmps14
    go_wp2_with fail
    go_ret
    exact ⟨rfl, rfl⟩
set_option maxRecDepth 100000 in
set_option maxHeartbeats 3200000 in
theorem rswrite_0 (gm gB B n cap : Nat) (A : Option Addr) (l : List UInt8) (f : Fl) (w : World) (K : Int) (hf : RfAt w gm gB f) (hl : Row w B A n (bv l)) (hA : 0 < n → ∀ b o, A = some ⟨b, o, none⟩ → b ≠ gm ∧ b ≠ gB) (hB : B ≤ w.heap.size) (hd : f.down = false) (hn1 : 1 ≤ n) (hn : n ≤ 512) (hok : f.Ok K) (hK : K ≤ 1000000) :
    Calls Tryd.prog 14 #[.pointer (some ⟨gm, 0, none⟩), .int .i64 0, .slice A n cap] w (RProgOk gm gB (f.swrite 2 l) w) := by
  have hoff := hf.off
  rw [hd] at hoff
  have e3 : ¬ ((n : Int) < 1) := by omega
  have e4 : ¬ ((512 : Int) < n) := by omega
  have hbl := hl.blen
  have HBL := Lib.hid hbl
  have HL := Lib.hid hl
  have HA := Lib.hid hA
  have HF := Lib.hid hf
  have HKK := Lib.hid hK
  have H0 : Hid (CleanTo f 2 K 0 f) := ⟨hd, hok.more (by omega), .inl ⟨rfl, rfl⟩⟩
  have HPL := Lib.hid (fun W => rplace_any 0 2 W (by omega) (by omega))
  have HSW : Hid (f.swrite 2 l = if (f.cleanS 2).2 = 0 then
      if ((f.cleanS 2).1.prog 512 l).2 = 0 then (((f.cleanS 2).1.prog 512 l).1, ((f.cleanS 2).1.prog 512 l).1.checkS 512 l) else (f.cleanS 2).1.prog 512 l
    else f.cleanS 2) := rfl
  clear hf hl hA hd hok hK hbl
  go_enter Tryd.func14, Tryd.ntmps14
  go_wp2_with fail
  go_loopw [32] (fun i wr => ∃ (k : Nat) (fk : Fl), k ≤ 2 ∧ i = .int .i64 k ∧ Hid (RDone gm gB fk w wr) ∧ Hid (CleanTo f 2 K k fk)) (fun i _ => 2 - (intOf i).toNat)
  case atStart => exact ⟨0, f, by omega, rfl, rdone_refl HF.out, H0⟩
  case round =>
    clear HF H0 hoff
    obtain ⟨k, fk, hk, rfl, hdn, hcl⟩ := hrel
    by_cases hlt : k < 2
    · have HC := Lib.hid (fun si hsi => rclear_any gm gB (2 + k) fk wr (K + k) si hsi hdn.out.1 hcl.out.1 (by omega) hcl.out.2.1 (by have := HKK.out; omega))
      obtain ⟨f1, r1, hE⟩ : ∃ f1 r1, fk.clean1 (2 + k) = (f1, r1) := ⟨_, _, rfl⟩
      have he := Lib.hid hE
      rw [hE] at HC
      clear hE
      go_wp2_with fail
      refine (HC.out _ (by push_cast; omega)).mono ?_
      rintro e w2 ⟨rfl, hd2⟩
      have HD2 : Hid (RDone gm gB f1 w w2) := hdn.out.trans hd2.out
      clear hdn hd2 HC
      dsimp only
      by_cases h0 : r1 = 0
      · subst h0
        have HC2 := Lib.hid (hcl.out.next hlt he.out)
        clear hcl he
        go_wp2_with fail
        go_roundw
        case rel => exact ⟨k + 1, f1, by omega, by go_num, HD2, HC2⟩
        case measure => simp [intOf]; omega
      · have h0' : (r1 != 0) = true := by simpa using h0
        have HS := Lib.hid (hcl.out.stop hlt he.out h0)
        have HQ : Hid (f.swrite 2 l = (f1, r1)) := by show _ = _; rw [HSW.out, HS.out, if_neg h0]
        clear hcl he h0
        go_wp2_with fail
        go_ret
        refine ⟨?_, ?_⟩
        · rw [HQ.out]; rfl
        · rw [HQ.out]; exact HD2
    · obtain rfl : k = 2 := by omega
      have HS : Hid (f.cleanS 2 = (fk, 0)) := by
        rcases hcl.out.2.2 with ⟨h, _⟩ | ⟨h, _⟩ | ⟨_, h⟩
        · omega
        · omega
        · exact h
      have hdk := hcl.out.1
      have HOKK := Lib.hid hcl.out.2.1
      clear hcl
      have HR1 : Hid (Row wr w.heap.size A n (bv l)) := (HL.out.more hB).gr2 HA.out hdn.out.2 (Nat.le_refl _)
      have HP := Lib.hid (fun ai hai => rprog_at15 512 w.heap.size n cap A l fk wr ai hai hdn.out.1 HR1.out HA.out hdn.out.2.size hdk (by omega) (by have := HOKK.out.1; omega) (by have := HOKK.out.2.1; have := HKK.out; omega))
      have hdp := fun h => (prog_down_same fk 512 l h).trans hdk
      have hsw2 := HSW.out
      obtain ⟨f2, r2, hE⟩ : ∃ f2 r2, fk.prog 512 l = (f2, r2) := ⟨_, _, rfl⟩
      rw [HS.out, if_pos rfl, hE] at hsw2
      rw [hE] at HP hdp
      dsimp only at hsw2 hdp
      have HSW2 := Lib.hid hsw2
      have HDP := Lib.hid hdp
      clear hE hsw2 hdp HSW hdk HOKK HS
      go_wp2_with fail
      refine (HPL.out wr).mono ?_
      rintro e w' ⟨rfl, rfl⟩
      go_wp2_with fail
      refine (HP.out _ (by omega)).mono ?_
      rintro e w2 ⟨rfl, hd2⟩
      dsimp only
      have HD2 : Hid (RDone gm gB f2 w w2) := hdn.out.trans hd2.out
      have HR2 : Hid (Row w2 w.heap.size A n (bv l)) := HR1.out.gr2 HA.out hd2.out.2 hdn.out.2.size
      clear hdn hd2 HP HR1
      by_cases h2 : r2 = 0
      · subst h2
        have HSR := Lib.hid (rsread_any gm gB f2 0 n (f2.sub 512 n) 0 w2 (by omega) (by omega) HD2.out.1 (.inr (.inr ⟨0, n, by omega, by omega, rfl, hn, HDP.out rfl, rfl, rfl⟩)))
        have HCK : Hid (∀ L, L = f2.sub 512 n → f2.checkS 512 l = if L = l then 0 else 13) := by
          intro L hL
          subst hL
          unfold Fl.checkS; rw [HBL.out]
        obtain ⟨L, hL⟩ : ∃ L, L = f2.sub 512 n := ⟨_, rfl⟩
        have HC := Lib.hid (HCK.out L hL)
        rw [← hL] at HSR
        rw [if_pos rfl] at HSW2
        clear HCK hL
        go_wp2_with fail
        refine HSR.out.mono ?_
        rintro e w3 ⟨A3, n3, c3, rfl, hn3, hr3, hb3⟩
        have HD3 : Hid (RDone gm gB f2 w w3) := HD2.out.trans (rdone_after hb3.out (rdone_refl (HD2.out.1.below hb3.out)))
        have hk1 := run_string_row (P := Tryd.prog) hr3.out c3 28 9 5 Tryd.underlying28 Tryd.underlying5 Tryd.underlying9
        have hk2 := run_string_row (P := Tryd.prog) ((HR2.out.more HD2.out.2.size).below hb3.out |>.more hb3.out.size) cap 28 9 5 Tryd.underlying28 Tryd.underlying5 Tryd.underlying9
        clear hn3 hr3 hb3 HSR HD2 HR2
        by_cases h : L = l
        · have h2 : (L == l) = true := by simpa using h
          rw [if_pos h] at HC
          clear h
          go_wp2_with fail
          go_ret
          exact ⟨by rw [HSW2.out, HC.out]; rfl, by rw [HSW2.out]; exact HD3⟩
        · have h2 : (L == l) = false := by simpa using h
          rw [if_neg h] at HC
          clear h
          go_wp2_with fail
          go_ret
          exact ⟨by rw [HSW2.out, HC.out]; rfl, by rw [HSW2.out]; exact HD3⟩
      · have h2' : (r2 != 0) = true := by simpa using h2
        have HQ : Hid (f.swrite 2 l = (f2, r2)) := by show _ = _; rw [HSW2.out, if_neg h2]
        clear h2
        go_wp2_with fail
        go_ret
        refine ⟨?_, ?_⟩
        · rw [HQ.out]; rfl
        · rw [HQ.out]; exact HD2
set_option maxRecDepth 100000 in
set_option maxHeartbeats 3200000 in
theorem rswrite_1 (gm gB B n cap : Nat) (A : Option Addr) (l : List UInt8) (f : Fl) (w : World) (K : Int) (hf : RfAt w gm gB f) (hl : Row w B A n (bv l)) (hA : 0 < n → ∀ b o, A = some ⟨b, o, none⟩ → b ≠ gm ∧ b ≠ gB) (hB : B ≤ w.heap.size) (hd : f.down = false) (hn1 : 1 ≤ n) (hn : n ≤ 512) (hok : f.Ok K) (hK : K ≤ 1000000) :
    Calls Tryd.prog 14 #[.pointer (some ⟨gm, 0, none⟩), .int .i64 1, .slice A n cap] w (RProgOk gm gB (f.swrite 4 l) w) := by
  have hoff := hf.off
  rw [hd] at hoff
  have e3 : ¬ ((n : Int) < 1) := by omega
  have e4 : ¬ ((512 : Int) < n) := by omega
  have hbl := hl.blen
  have HBL := Lib.hid hbl
  have HL := Lib.hid hl
  have HA := Lib.hid hA
  have HF := Lib.hid hf
  have HKK := Lib.hid hK
  have H0 : Hid (CleanTo f 4 K 0 f) := ⟨hd, hok.more (by omega), .inl ⟨rfl, rfl⟩⟩
  have HPL := Lib.hid (fun W => rplace_any 1 4 W (by omega) (by omega))
  have HSW : Hid (f.swrite 4 l = if (f.cleanS 4).2 = 0 then
      if ((f.cleanS 4).1.prog 1024 l).2 = 0 then (((f.cleanS 4).1.prog 1024 l).1, ((f.cleanS 4).1.prog 1024 l).1.checkS 1024 l) else (f.cleanS 4).1.prog 1024 l
    else f.cleanS 4) := rfl
  clear hf hl hA hd hok hK hbl
  go_enter Tryd.func14, Tryd.ntmps14
  go_wp2_with fail
  go_loopw [32] (fun i wr => ∃ (k : Nat) (fk : Fl), k ≤ 2 ∧ i = .int .i64 k ∧ Hid (RDone gm gB fk w wr) ∧ Hid (CleanTo f 4 K k fk)) (fun i _ => 2 - (intOf i).toNat)
  case atStart => exact ⟨0, f, by omega, rfl, rdone_refl HF.out, H0⟩
  case round =>
    clear HF H0 hoff
    obtain ⟨k, fk, hk, rfl, hdn, hcl⟩ := hrel
    by_cases hlt : k < 2
    · have HC := Lib.hid (fun si hsi => rclear_any gm gB (4 + k) fk wr (K + k) si hsi hdn.out.1 hcl.out.1 (by omega) hcl.out.2.1 (by have := HKK.out; omega))
      obtain ⟨f1, r1, hE⟩ : ∃ f1 r1, fk.clean1 (4 + k) = (f1, r1) := ⟨_, _, rfl⟩
      have he := Lib.hid hE
      rw [hE] at HC
      clear hE
      go_wp2_with fail
      refine (HC.out _ (by push_cast; omega)).mono ?_
      rintro e w2 ⟨rfl, hd2⟩
      have HD2 : Hid (RDone gm gB f1 w w2) := hdn.out.trans hd2.out
      clear hdn hd2 HC
      dsimp only
      by_cases h0 : r1 = 0
      · subst h0
        have HC2 := Lib.hid (hcl.out.next hlt he.out)
        clear hcl he
        go_wp2_with fail
        go_roundw
        case rel => exact ⟨k + 1, f1, by omega, by go_num, HD2, HC2⟩
        case measure => simp [intOf]; omega
      · have h0' : (r1 != 0) = true := by simpa using h0
        have HS := Lib.hid (hcl.out.stop hlt he.out h0)
        have HQ : Hid (f.swrite 4 l = (f1, r1)) := by show _ = _; rw [HSW.out, HS.out, if_neg h0]
        clear hcl he h0
        go_wp2_with fail
        go_ret
        refine ⟨?_, ?_⟩
        · rw [HQ.out]; rfl
        · rw [HQ.out]; exact HD2
    · obtain rfl : k = 2 := by omega
      have HS : Hid (f.cleanS 4 = (fk, 0)) := by
        rcases hcl.out.2.2 with ⟨h, _⟩ | ⟨h, _⟩ | ⟨_, h⟩
        · omega
        · omega
        · exact h
      have hdk := hcl.out.1
      have HOKK := Lib.hid hcl.out.2.1
      clear hcl
      have HR1 : Hid (Row wr w.heap.size A n (bv l)) := (HL.out.more hB).gr2 HA.out hdn.out.2 (Nat.le_refl _)
      have HP := Lib.hid (fun ai hai => rprog_at15 1024 w.heap.size n cap A l fk wr ai hai hdn.out.1 HR1.out HA.out hdn.out.2.size hdk (by omega) (by have := HOKK.out.1; omega) (by have := HOKK.out.2.1; have := HKK.out; omega))
      have hdp := fun h => (prog_down_same fk 1024 l h).trans hdk
      have hsw2 := HSW.out
      obtain ⟨f2, r2, hE⟩ : ∃ f2 r2, fk.prog 1024 l = (f2, r2) := ⟨_, _, rfl⟩
      rw [HS.out, if_pos rfl, hE] at hsw2
      rw [hE] at HP hdp
      dsimp only at hsw2 hdp
      have HSW2 := Lib.hid hsw2
      have HDP := Lib.hid hdp
      clear hE hsw2 hdp HSW hdk HOKK HS
      go_wp2_with fail
      refine (HPL.out wr).mono ?_
      rintro e w' ⟨rfl, rfl⟩
      go_wp2_with fail
      refine (HP.out _ (by omega)).mono ?_
      rintro e w2 ⟨rfl, hd2⟩
      dsimp only
      have HD2 : Hid (RDone gm gB f2 w w2) := hdn.out.trans hd2.out
      have HR2 : Hid (Row w2 w.heap.size A n (bv l)) := HR1.out.gr2 HA.out hd2.out.2 hdn.out.2.size
      clear hdn hd2 HP HR1
      by_cases h2 : r2 = 0
      · subst h2
        have HSR := Lib.hid (rsread_any gm gB f2 1 n (f2.sub 1024 n) 0 w2 (by omega) (by omega) HD2.out.1 (.inr (.inr ⟨1, n, by omega, by omega, rfl, hn, HDP.out rfl, rfl, rfl⟩)))
        have HCK : Hid (∀ L, L = f2.sub 1024 n → f2.checkS 1024 l = if L = l then 0 else 13) := by
          intro L hL
          subst hL
          unfold Fl.checkS; rw [HBL.out]
        obtain ⟨L, hL⟩ : ∃ L, L = f2.sub 1024 n := ⟨_, rfl⟩
        have HC := Lib.hid (HCK.out L hL)
        rw [← hL] at HSR
        rw [if_pos rfl] at HSW2
        clear HCK hL
        go_wp2_with fail
        refine HSR.out.mono ?_
        rintro e w3 ⟨A3, n3, c3, rfl, hn3, hr3, hb3⟩
        have HD3 : Hid (RDone gm gB f2 w w3) := HD2.out.trans (rdone_after hb3.out (rdone_refl (HD2.out.1.below hb3.out)))
        have hk1 := run_string_row (P := Tryd.prog) hr3.out c3 28 9 5 Tryd.underlying28 Tryd.underlying5 Tryd.underlying9
        have hk2 := run_string_row (P := Tryd.prog) ((HR2.out.more HD2.out.2.size).below hb3.out |>.more hb3.out.size) cap 28 9 5 Tryd.underlying28 Tryd.underlying5 Tryd.underlying9
        clear hn3 hr3 hb3 HSR HD2 HR2
        by_cases h : L = l
        · have h2 : (L == l) = true := by simpa using h
          rw [if_pos h] at HC
          clear h
          go_wp2_with fail
          go_ret
          exact ⟨by rw [HSW2.out, HC.out]; rfl, by rw [HSW2.out]; exact HD3⟩
        · have h2 : (L == l) = false := by simpa using h
          rw [if_neg h] at HC
          clear h
          go_wp2_with fail
          go_ret
          exact ⟨by rw [HSW2.out, HC.out]; rfl, by rw [HSW2.out]; exact HD3⟩
      · have h2' : (r2 != 0) = true := by simpa using h2
        have HQ : Hid (f.swrite 4 l = (f2, r2)) := by show _ = _; rw [HSW2.out, if_neg h2]
        clear h2
        go_wp2_with fail
        go_ret
        refine ⟨?_, ?_⟩
        · rw [HQ.out]; rfl
        · rw [HQ.out]; exact HD2
end Go.Proofs.YtgfdpondnkcogaaDoor
namespace Go.Proofs.YtgfdpondnkcogaaDoor
open Go.RowKit
set_option maxRecDepth 100000 in
theorem sof_no (v : Int) (n cap : Nat) (A : Option Addr) (w : World) (h : n < 1 ∨ 512 < n) :
    Calls Tryd.prog 11 #[.int .u32 v, .slice A n cap] w fun e w' => e = .returned (.tuple #[.agg #[.int .u32 0, .int .i64 0, .slice none 0 0], .bool false]) ∧ Hid (Below w.heap.size w w') := by
  have hb0 : Below w.heap.size w (w.alloc (.cells #[.int .u32 0, .int .i64 0, .slice none 0 0] 33)) := (Below.refl _ _).alloc (Nat.le_refl _) _
  have HFT := Lib.hid (fits_no (n : Int) (w.alloc (.cells #[.int .u32 0, .int .i64 0, .slice none 0 0] 33)) (by omega))
  have hz := heap_alloc_new w (.cells #[.int .u32 0, .int .i64 0, .slice none 0 0] 33)
  obtain ⟨y0, y1, y2⟩ := c3 hz
  have z0 := frozen_of_row _ w.heap.size 0 _ _ hz
  have z1 := frozen_of_row _ w.heap.size 1 _ _ hz
  have z2 := frozen_of_row _ w.heap.size 2 _ _ hz
  have HZ := Lib.hid hz
  have HB := Lib.hid hb0
  clear hz hb0 h
  go_enter Tryd.func11, Tryd.ntmps11
  go_wp2_with fail
  refine HFT.out.mono ?_
  rintro e w' ⟨rfl, rfl⟩
  generalize w.alloc (.cells #[.int .u32 0, .int .i64 0, .slice none 0 0] 33) = W0 at *
  go_wp2_with fail
  have hrow := sl3 HZ.out (.int .u32 0) (.int .i64 0) (.slice none 0 0)
  refine bodyPost_ret (slr_row rfl _ _ w.heap.size _ _ (0, 0) _ rfl hrow Tryd.underlying33 rfl (by kernel_rfl)) rfl ?_
  exact ⟨rfl, ((HB.out.setCell (Nat.le_refl _) _).setCell (Nat.le_refl _) _).setCell (Nat.le_refl _) _⟩
theorem sread_len (p : Option Addr) (s : Nat) (y : Int) (w : World) (hs : s = 0 ∨ s = 1) (h : y < 0 ∨ 512 < y) : Calls Tryd.prog 15 #[.pointer p, .int .i64 (s : Int), .int .i64 y] w fun e w' => e = .returned (.tuple #[.slice none 0 0, .int .i64 1]) ∧ w = w' := by
  have HT := Lib.hid (there_yes s w hs)
  have HF := Lib.hid (fits_no y w (by omega))
  have h0' : (y != 0) = true := bne_iff_ne.2 (by omega)
  clear h hs
  go_enter Tryd.func15, Tryd.ntmps15
  go_wp2_with fail
  refine HT.out.mono ?_
  rintro e w' ⟨rfl, rfl⟩
  go_wp2_with fail
  refine HF.out.mono ?_
  rintro e w' ⟨rfl, rfl⟩
  go_wp2_with fail
  go_ret2
  exact ⟨rfl, rfl⟩
set_option maxRecDepth 100000 in
/-- what flash itself refuses: k -/
theorem sread_er (p : Option Addr) (s n : Nat) (k : Int) (w : World) (hs : s = 0 ∨ s = 1) (hn : n ≤ 512) (hr : Calls Tryd.prog 38 #[.pointer p, .int .i64 ((2 + 2 * s : Nat) * 256 : Int), .int .i64 (n : Int)] w fun e w' => e = .returned (.tuple #[.slice none 0 0, .int .i64 k]) ∧ w = w') :
    Calls Tryd.prog 15 #[.pointer p, .int .i64 (s : Int), .int .i64 (n : Int)] w fun e w' => e = .returned (.tuple #[.slice none 0 0, .int .i64 k]) ∧ w = w' := by
  obtain ⟨a, ha⟩ : ∃ a, 2 + 2 * s = a := ⟨_, rfl⟩
  have HT := Lib.hid (there_yes s w hs)
  have HFI := Lib.hid (sfirst_any s a w hs ha.symm)
  have ha4 : a ≤ 4 := by omega
  rw [ha] at hr
  have HR := Lib.hid hr
  have hs1 : s ≤ 1 := by omega
  clear hr hs ha
  by_cases h0 : n = 0
  · subst h0
    go_enter Tryd.func15, Tryd.ntmps15
    go_wp2_with fail
    refine HT.out.mono ?_
    rintro e w' ⟨rfl, rfl⟩
    go_wp2_with fail
    refine HFI.out.mono ?_
    rintro e w' ⟨rfl, rfl⟩
    go_wp2_with fail
    refine HR.out.mono ?_
    rintro e w' ⟨rfl, rfl⟩
    go_wp2_with fail
    go_ret2
    exact ⟨rfl, rfl⟩
  · have h0' : ((n : Int) != 0) = true := bne_iff_ne.2 (by omega)
    have HFT := Lib.hid (fits_yes n w (by omega) hn)
    clear h0
    go_enter Tryd.func15, Tryd.ntmps15
    go_wp2_with fail
    refine HT.out.mono ?_
    rintro e w' ⟨rfl, rfl⟩
    go_wp2_with fail
    refine HFT.out.mono ?_
    rintro e w' ⟨rfl, rfl⟩
    go_wp2_with fail
    refine HFI.out.mono ?_
    rintro e w' ⟨rfl, rfl⟩
    go_wp2_with fail
    refine HR.out.mono ?_
    rintro e w' ⟨rfl, rfl⟩
    go_wp2_with fail
    go_ret2
    exact ⟨rfl, rfl⟩
theorem sread_is (g : Nat) (f : Fl) (x n : Int) (d : List UInt8) (k : Int) (w : World) (hf : FlAt w g f) (h : SRd f x n d k) :
    Calls Tryd.prog 15 #[.pointer (some ⟨g, 0, none⟩), .int .i64 x, .int .i64 n] w (SBytesK d k w) := by
  rcases h with ⟨h, rfl, rfl⟩ | ⟨hx, h1, h2, hd, rfl, rfl⟩ | ⟨s, m, rfl, hs, rfl, hm, hd, rfl, rfl⟩
  · by_cases hx : x = 0 ∨ x = 1
    · obtain ⟨s, rfl⟩ : ∃ s : Nat, x = s := ⟨x.toNat, by omega⟩
      refine (sread_len _ s n w (by omega) (by omega)).mono ?_
      rintro e w' ⟨rfl, rfl⟩
      exact ⟨none, 0, 0, rfl, rfl, Row.nil _ _ _, Below.refl _ _⟩
    · refine (sread_no _ x n w (by omega) (by omega)).mono ?_
      rintro e w' ⟨rfl, rfl⟩
      exact ⟨none, 0, 0, rfl, rfl, Row.nil _ _ _, Below.refl _ _⟩
  · obtain ⟨s, rfl⟩ : ∃ s : Nat, x = s := ⟨x.toNat, by omega⟩
    obtain ⟨m, rfl⟩ : ∃ m : Nat, n = m := ⟨n.toNat, by omega⟩
    refine (sread_er _ s m 11 w (by omega) (by omega) (read_bad _ _ _ 11 w (may_any g f _ _ 11 w hf (by omega) (by unfold mayE; rw [hd]; rfl)) (by decide))).mono ?_
    rintro e w' ⟨rfl, rfl⟩
    exact ⟨none, 0, 0, rfl, rfl, Row.nil _ _ _, Below.refl _ _⟩
  · refine (sread_any g s (2 + 2 * s) m f w hf hd hs rfl hm).mono ?_
    rintro e w' ⟨A, n, c, rfl, hn, hown, hb⟩
    exact ⟨A, n, c, rfl, hn, Row.of_own hown.out, hb⟩
theorem swrite_down (g s n cap : Nat) (A : Option Addr) (f : Fl) (w : World) (hf : FlAt w g f) (hd : f.down = true) (hs : s = 0 ∨ s = 1) (h1 : 1 ≤ n) (h2 : n ≤ 512) :
    Calls Tryd.prog 13 #[.pointer (some ⟨g, 0, none⟩), .int .i64 (s : Int), .slice A n cap] w fun e w' => e = .returned (.int .i64 11) ∧ w = w' := by
  have HT := Lib.hid (there_yes s w hs)
  have HFT := Lib.hid (fits_yes n w h1 h2)
  have HDN := Lib.hid (down_any g f true w hf hd)
  clear hf hs
  go_enter Tryd.func13, Tryd.ntmps13
  go_wp2_with fail
  refine HT.out.mono ?_
  rintro e w' ⟨rfl, rfl⟩
  go_wp2_with fail
  refine HFT.out.mono ?_
  rintro e w' ⟨rfl, rfl⟩
  go_wp2_with fail
  refine HDN.out.mono ?_
  rintro e w' ⟨rfl, rfl⟩
  go_wp2_with fail
  go_ret
  exact ⟨rfl, rfl⟩
theorem swrite_nil (n cap : Nat) (x : Int) (A : Option Addr) (w : World) :
    Calls Tryd.prog 13 #[.pointer none, .int .i64 x, .slice A n cap] w fun e w' => e = .returned (.int .i64 1) ∧ w = w' := by
  go_enter Tryd.func13, Tryd.ntmps13
  go_wp2_with fail
  go_ret
  exact ⟨rfl, rfl⟩
theorem sread_nil (w : World) : Calls Tryd.prog 15 #[.pointer none, .int .i64 0, .int .i64 0] w fun e w' => e = .returned (.tuple #[.slice none 0 0, .int .i64 1]) ∧ w = w' :=
  sread_er none 0 0 1 w (by omega) (by omega) (read_bad none _ _ 1 w (may_nil _ _ w) (by decide))
end Go.Proofs.YtgfdpondnkcogaaDoor
namespace Go.Proofs.YtgfdpondnkcogaaDoor
open Go.RowKit
set_option maxRecDepth 100000 in
theorem rsof_no (v : Int) (n cap : Nat) (A : Option Addr) (w : World) (h : n < 1 ∨ 512 < n) :
    Calls Tryd.prog 12 #[.int .u32 v, .slice A n cap] w fun e w' => e = .returned (.tuple #[.agg #[.int .u32 0, .int .i64 0, .slice none 0 0], .bool false]) ∧ Hid (Below w.heap.size w w') := by
  have hb0 : Below w.heap.size w (w.alloc (.cells #[.int .u32 0, .int .i64 0, .slice none 0 0] 33)) := (Below.refl _ _).alloc (Nat.le_refl _) _
  have hz := heap_alloc_new w (.cells #[.int .u32 0, .int .i64 0, .slice none 0 0] 33)
  obtain ⟨y0, y1, y2⟩ := c3 hz
  have z0 := frozen_of_row _ w.heap.size 0 _ _ hz
  have z1 := frozen_of_row _ w.heap.size 1 _ _ hz
  have z2 := frozen_of_row _ w.heap.size 2 _ _ hz
  have HZ := Lib.hid hz
  have HB := Lib.hid hb0
  clear hz hb0
  have hbr : (n : Int) < 1 ∨ (¬ (n : Int) < 1 ∧ 512 < (n : Int)) := by omega
  clear h
  rcases hbr with h | ⟨h, h'⟩
  all_goals
    go_enter Tryd.func12, Tryd.ntmps12
    go_upto_region 2 with fail
    generalize w.alloc (.cells #[.int .u32 0, .int .i64 0, .slice none 0 0] 33) = W0 at *
    go_wp2_with fail
    have hrow := sl3 HZ.out (.int .u32 0) (.int .i64 0) (.slice none 0 0)
    refine bodyPost_ret (slr_row rfl _ _ w.heap.size _ _ (0, 0) _ rfl hrow Tryd.underlying33 rfl (by kernel_rfl)) rfl ?_
    exact ⟨rfl, ((HB.out.setCell (Nat.le_refl _) _).setCell (Nat.le_refl _) _).setCell (Nat.le_refl _) _⟩
set_option maxRecDepth 100000 in
set_option maxHeartbeats 1600000 in
theorem rsof_yes (v n B cap : Nat) (A : Option Addr) (l : List UInt8) (w : World) (hl : Row w B A n (bv l)) (hB : B ≤ w.heap.size) (h1 : 1 ≤ n) (h2 : n ≤ 512) :
    Calls Tryd.prog 12 #[.int .u32 (v : Int), .slice A n cap] w (SOfOk v n l w) := by
  have hb0 : Below w.heap.size w (w.alloc (.cells #[.int .u32 0, .int .i64 0, .slice none 0 0] 33)) := (Below.refl _ _).alloc (Nat.le_refl _) _
  have HSUM := Lib.hid (Sh.rdig_any B n cap A l (w.alloc (.cells #[.int .u32 0, .int .i64 0, .slice none 0 0] 33)) (hl.alloc hB _) (by simp; omega) (by omega))
  have HZ := Lib.hid (heap_alloc_new w (.cells #[.int .u32 0, .int .i64 0, .slice none 0 0] 33))
  have HS : Hid ((w.alloc (.cells #[.int .u32 0, .int .i64 0, .slice none 0 0] 33)).heap.size = w.heap.size + 1) := by show _ = _; simp
  have HB0 := Lib.hid hb0
  have e3 : ¬ ((n : Int) < 1) := by omega
  have e4 : ¬ ((512 : Int) < n) := by omega
  clear hb0 hl h1 h2
  go_enter Tryd.func12, Tryd.ntmps12
  go_wp2_with fail
  refine HSUM.out.mono ?_
  rintro e w2 ⟨A2, c2, rfl, hown, hb2⟩
  have hz2 := (hb2.out.block w.heap.size (by have := HS.out; omega)).trans HZ.out
  obtain ⟨y0, y1, y2⟩ := c3 hz2
  have z0 := frozen_of_row w2 w.heap.size 0 _ _ hz2
  have z1 := frozen_of_row w2 w.heap.size 1 _ _ hz2
  have z2 := frozen_of_row w2 w.heap.size 2 _ _ hz2
  have HZ2 := Lib.hid hz2
  have HB2 : Hid (Below w.heap.size w w2) := HB0.out.trans (hb2.out.mono HB0.out.size)
  have HR2 := Lib.hid (Row.of_own hown.out)
  have hcc := own_cap hown.out
  have HAP : Hid (∀ b o, A2 = some ⟨b, o, none⟩ → b ≠ w.heap.size ∧ w.heap.size ≤ b) := by
    intro b' o' e
    obtain ⟨g2, c22, hv, hg2, _⟩ := hown.out.form (by omega)
    injection hv with e1 e2 e3
    rw [e] at e1
    injection e1 with e1
    injection e1 with e1
    have := HS.out
    omega
  clear hz2 hb2 hown HSUM HZ HB0
  go_wp2_with fail
  have hrow := sl3 HZ2.out (.int .u32 (v : Int)) (.int .i64 (n : Int)) (.slice A2 32 c2)
  refine bodyPost_ret (slr_row rfl _ _ w.heap.size _ _ (0, 0) _ rfl hrow Tryd.underlying33 rfl (by kernel_rfl)) rfl ?_
  exact ⟨A2, c2, rfl, ((HR2.out.apart (fun _ b o e => (HAP.out b o e).1) (((grown_set w2 w.heap.size 0 _).trans (grown_set _ w.heap.size 1 _)).trans (grown_set _ w.heap.size 2 _)) (Nat.le_refl _)).more (by simp)), (fun b o e => (HAP.out b o e).2), hcc, ((HB2.out.setCell (Nat.le_refl _) _).setCell (Nat.le_refl _) _).setCell (Nat.le_refl _) _⟩
set_option maxRecDepth 100000 in
set_option maxHeartbeats 1600000 in
theorem rright_any (gm gB v n m c : Nat) (x : Int) (A : Option Addr) (h : List UInt8) (f : Fl) (d : List UInt8) (k : Int) (w : World) (hf : RfAt w gm gB f) (hs : SRd f x m d k) (hdl : d.length ≤ 512) (hm : m ≤ 512) (hh : Row w w.heap.size A n (bv h)) (bb : Bool) (hbb : bb = (decide (1 ≤ m) && (k == 0) && (Sha.D d == h))) :
    Calls Tryd.prog 18 #[.pointer (some ⟨gm, 0, none⟩), .int .i64 x, .agg #[.int .u32 (v : Int), .int .i64 (m : Int), .slice A n c]] w fun e w' => e = .returned (.bool bb) ∧ Hid (Below w.heap.size w w') := by
  have hb0 : Below w.heap.size w (w.alloc (.cells #[.int .u32 (v : Int), .int .i64 (m : Int), .slice A n c] 33)) := (Below.refl _ _).alloc (Nat.le_refl _) _
  have HRD := Lib.hid (rsread_any gm gB f x m d k (w.alloc (.cells #[.int .u32 (v : Int), .int .i64 (m : Int), .slice A n c] 33)) (by omega) (by omega) (hf.below hb0) hs)
  have HZ := Lib.hid (heap_alloc_new w (.cells #[.int .u32 (v : Int), .int .i64 (m : Int), .slice A n c] 33))
  have HS : Hid ((w.alloc (.cells #[.int .u32 (v : Int), .int .i64 (m : Int), .slice A n c] 33)).heap.size = w.heap.size + 1) := by show _ = _; simp
  have HB0 := Lib.hid hb0
  have HH := Lib.hid hh
  obtain ⟨y0, y1, y2⟩ := c3 HZ.out
  clear hf hs hb0 hh
  go_enter Tryd.func18, Tryd.ntmps18
  go_wp2_with fail
  refine HRD.out.mono ?_
  rintro e w2 ⟨A2, n2, c2, rfl, hn2, hr2, hb2⟩
  have hz2 := (hb2.out.block w.heap.size (by have := HS.out; omega)).trans HZ.out
  have HB2 : Hid (Below w.heap.size w w2) := HB0.out.trans (hb2.out.mono HB0.out.size)
  have hsz : w.heap.size < w2.heap.size := (Array.getElem?_eq_some_iff.1 hz2).1
  have HZ2 := Lib.hid hz2
  have HH2 := Lib.hid (HH.out.below HB2.out)
  clear hz2 hb2 HRD HZ HS HB0 HH y0 y1 y2
  obtain ⟨y0, y1, y2⟩ := c3 HZ2.out
  by_cases hm1 : 1 ≤ m
  · by_cases hk : k = 0
    · subst hk
      have hd1 : decide (1 ≤ m) = true := by simpa using hm1
      have hm1i : (1 : Int) ≤ m := by omega
      have HDG := Lib.hid (fun W (hW : Below w2.heap.size w2 W) => Sh.rdig_any w2.heap.size n2 c2 A2 d W (hr2.out.below hW) hW.size (by have := hn2.out; omega))
      have HFX : Hid (∀ W, Below w2.heap.size w2 W → W.cell? ⟨w.heap.size, 1, none⟩ = some (.int .i64 (m : Int)) ∧ W.cell? ⟨w.heap.size, 2, none⟩ = some (.slice A n c) ∧ (convert 28 9 (.slice A n c)).run Tryd.prog W = .ok (.string ⟨h.toArray⟩) W) := Lib.hid fun W hW => by
        obtain ⟨x0, x1, x2⟩ := c3 ((hW.block w.heap.size hsz).trans HZ2.out)
        exact ⟨x1, x2, run_string_row (HH2.out.below (hW.mono HB2.out.size)) c 28 9 5 Tryd.underlying28 Tryd.underlying5 Tryd.underlying9⟩
      have HBB : Hid (bb = (Sha.D d == h)) := by show _ = _; rw [hbb, hd1]; simp
      clear hn2 hr2 HZ2 HH2 hm1 hd1 hbb y0 y1 y2
      go_upto_region 2 with fail
      refine wp_region_noPanic ?_
      refine wp_region_held_drew (S := (fun W => Below w2.heap.size w2 W)) (by kernel_rfl) (Below.refl _ _).drew (fun hH0 => ?_)
      have hH0 : Below w2.heap.size w2 w2.drew := hH0
      generalize w2.drew = wd at *
      refine wpAnyH_take (i := 0) (oi := { dst := some 17, op := Op.fieldAddr 33 (Operand.tmp 5) 1, type := 0, pos := "ref.go:427", after := #[], guard := none }) (v := ?tkv101) rfl (by kernel_rfl) (by kernel_rfl) (by kernel_rfl) (fun _ _ _ h => h) (Or.inl ⟨by rfl, ?tky101⟩) hH0 ?tkr101
      case tky101 => (intro w' hSw; clear hSw; go_simp; try with_reducible rfl)
      try simp only [Act.put, List.setIfInBounds_toArray, List.set_cons_zero, List.set_cons_succ]
      refine wpAnyH_take (i := 1) (oi := { dst := some 18, op := Op.load 3 (Operand.tmp 17), type := 3, pos := "ref.go:427", after := #[{ on := 0, ground := Ground.data }], guard := none }) (v := ?tkv102) rfl (by kernel_rfl) (by kernel_rfl) (by kernel_rfl) (fun _ _ _ h => h) (Or.inl ⟨by rfl, ?tky102⟩) hH0 ?tkr102
      case tky102 => (intro w' hSw; have z0 := HFX.out _ hSw; clear hSw; go_simp; try with_reducible rfl)
      try simp only [Act.put, List.setIfInBounds_toArray, List.set_cons_zero, List.set_cons_succ]
      refine wpAnyH_take (i := 2) (oi := { dst := some 19, op := Op.binOp BinOp.geq 3 (Operand.tmp 18) (Operand.const (Value.int IntKind.i64 1)) 3, type := 4, pos := "ref.go:427", after := #[{ on := 1, ground := Ground.data }], guard := none }) (v := ?tkv103) rfl (by kernel_rfl) (by kernel_rfl) (by kernel_rfl) (fun _ _ _ h => h) (Or.inl ⟨by rfl, ?tky103⟩) hH0 ?tkr103
      case tky103 => (intro w' hSw; clear hSw; go_simp; try with_reducible rfl)
      try simp only [Act.put, List.setIfInBounds_toArray, List.set_cons_zero, List.set_cons_succ]
      refine wpAnyH_take (i := 3) (oi := { dst := some 20, op := Op.move (Operand.tmp 19), type := 4, pos := "ref.go:427", after := #[{ on := 2, ground := Ground.data }], guard := none }) (v := ?tkv104) rfl (by kernel_rfl) (by kernel_rfl) (by kernel_rfl) (fun _ _ _ h => h) (Or.inl ⟨by rfl, ?tky104⟩) hH0 ?tkr104
      case tky104 => (intro w' hSw; clear hSw; go_simp; try with_reducible rfl)
      try simp only [Act.put, List.setIfInBounds_toArray, List.set_cons_zero, List.set_cons_succ]
      refine wpAnyH_take (i := 4) (oi := { dst := some 21, op := Op.move (Operand.tmp 8), type := 36, pos := "ref.go:427", after := #[{ on := 3, ground := Ground.guard }], guard := some (3, true) }) (v := ?tkv105) rfl (by kernel_rfl) (by kernel_rfl) (by kernel_rfl) (fun _ _ _ h => h) (Or.inl ⟨by rfl, ?tky105⟩) hH0 ?tkr105
      case tky105 => (intro w' hSw; clear hSw; go_simp; try with_reducible rfl)
      try simp only [Act.put, List.setIfInBounds_toArray, List.set_cons_zero, List.set_cons_succ]
      refine wpAnyH_take (i := 5) (oi := { dst := some 22, op := Op.binOp BinOp.eql 36 (Operand.tmp 21) (Operand.const (Value.int IntKind.i64 0)) 36, type := 4, pos := "ref.go:427", after := #[{ on := 4, ground := Ground.data }, { on := 3, ground := Ground.guard }], guard := some (3, true) }) (v := ?tkv106) rfl (by kernel_rfl) (by kernel_rfl) (by kernel_rfl) (fun _ _ _ h => h) (Or.inl ⟨by rfl, ?tky106⟩) hH0 ?tkr106
      case tky106 => (intro w' hSw; clear hSw; go_simp; try with_reducible rfl)
      try simp only [Act.put, List.setIfInBounds_toArray, List.set_cons_zero, List.set_cons_succ]
      refine wpAnyH_take (i := 6) (oi := { dst := some 23, op := Op.pick (Operand.tmp 20) (Operand.tmp 22) (Operand.const (Value.bool false)), type := 4, pos := "ref.go:427", after := #[{ on := 3, ground := Ground.data }, { on := 5, ground := Ground.data }], guard := none }) (v := ?tkv107) rfl (by kernel_rfl) (by kernel_rfl) (by kernel_rfl) (fun _ _ _ h => h) (Or.inl ⟨by rfl, ?tky107⟩) hH0 ?tkr107
      case tky107 => (intro w' hSw; clear hSw; go_simp; try with_reducible rfl)
      try simp only [Act.put, List.setIfInBounds_toArray, List.set_cons_zero, List.set_cons_succ]
      refine wpAnyH_take (i := 7) (oi := { dst := some 24, op := Op.move (Operand.tmp 23), type := 4, pos := "ref.go:427", after := #[{ on := 6, ground := Ground.data }, { on := 3, ground := Ground.chain }], guard := none }) (v := ?tkv108) rfl (by kernel_rfl) (by kernel_rfl) (by kernel_rfl) (fun _ _ _ h => h) (Or.inl ⟨by rfl, ?tky108⟩) hH0 ?tkr108
      case tky108 => (intro w' hSw; clear hSw; go_simp; try with_reducible rfl)
      try simp only [Act.put, List.setIfInBounds_toArray, List.set_cons_zero, List.set_cons_succ]
      refine wpAnyH_take (i := 8) (oi := { dst := some 25, op := Op.move (Operand.tmp 7), type := 28, pos := "ref.go:427", after := #[{ on := 7, ground := Ground.guard }], guard := some (7, true) }) (v := ?tkv109) rfl (by kernel_rfl) (by kernel_rfl) (by kernel_rfl) (fun _ _ _ h => h) (Or.inl ⟨by rfl, ?tky109⟩) hH0 ?tkr109
      case tky109 => (intro w' hSw; clear hSw; go_simp; try with_reducible rfl)
      try simp only [Act.put, List.setIfInBounds_toArray, List.set_cons_zero, List.set_cons_succ]
      refine wpAnyH_take (i := 11) (oi := { dst := some 28, op := Op.fieldAddr 33 (Operand.tmp 5) 2, type := 0, pos := "ref.go:427", after := #[{ on := 7, ground := Ground.guard }], guard := some (7, true) }) (v := ?tkv110) rfl (by kernel_rfl) (by kernel_rfl) (by kernel_rfl) (fun _ _ _ h => h) (Or.inl ⟨by rfl, ?tky110⟩) hH0 ?tkr110
      case tky110 => (intro w' hSw; clear hSw; go_simp; try with_reducible rfl)
      try simp only [Act.put, List.setIfInBounds_toArray, List.set_cons_zero, List.set_cons_succ]
      refine wpAnyH_take (i := 12) (oi := { dst := some 29, op := Op.load 28 (Operand.tmp 28), type := 28, pos := "ref.go:427", after := #[{ on := 11, ground := Ground.data }, { on := 7, ground := Ground.guard }], guard := some (7, true) }) (v := ?tkv111) rfl (by kernel_rfl) (by kernel_rfl) (by kernel_rfl) (fun _ _ _ h => h) (Or.inl ⟨by rfl, ?tky111⟩) hH0 ?tkr111
      case tky111 => (intro w' hSw; have z0 := HFX.out _ hSw; clear hSw; go_simp; try with_reducible rfl)
      try simp only [Act.put, List.setIfInBounds_toArray, List.set_cons_zero, List.set_cons_succ]
      refine wpAnyH_take (i := 13) (oi := { dst := some 30, op := Op.convert 28 9 (Operand.tmp 29), type := 9, pos := "ref.go:427", after := #[{ on := 12, ground := Ground.data }, { on := 7, ground := Ground.guard }], guard := some (7, true) }) (v := ?tkv112) rfl (by kernel_rfl) (by kernel_rfl) (by kernel_rfl) (fun _ _ _ h => h) (Or.inl ⟨by rfl, ?tky112⟩) hH0 ?tkr112
      case tky112 => (intro w' hSw; have z0 := HFX.out _ hSw; clear hSw; go_simp; try with_reducible rfl)
      try simp only [Act.put, List.setIfInBounds_toArray, List.set_cons_zero, List.set_cons_succ]
      refine wpAnyH_ready (rs := [9]) (by kernel_rfl) (by simp) ?_
      refine AllReadyH.cons (o := { dst := some 26, op := Op.call { callee := Callee.value (Operand.func 26), args := #[Operand.tmp 25], argTypes := #[28] }, type := 28, pos := "ref.go:427", after := #[{ on := 8, ground := Ground.data }, { on := 7, ground := Ground.chain }, { on := 7, ground := Ground.guard }], guard := some (7, true) }) rfl (fun K hK => ?_) AllReadyH.nil
      go_simp
      refine (HDG.out _ hH0).mono ?_
      rintro e' wd2 ⟨A5, c5, rfl, ho5, hbb⟩
      have hb9 := hbb.out
      have HKY := Lib.hid (fun (W : World) (hW : Below wd2.heap.size wd2 W) => run_string_row (P := Tryd.prog) ((Row.of_own ho5.out).below hW) c5 28 9 5 Tryd.underlying28 Tryd.underlying5 Tryd.underlying9)
      clear ho5 hbb
      go_simp
      refine hK.out _ _ ((hH0).trans (hb9.mono (hH0).size)) (fun hH113 => ?_)
      clear hK K
      try simp only [Act.put, List.setIfInBounds_toArray, List.set_cons_zero, List.set_cons_succ]
      have hG113 : (fun W => Below w2.heap.size w2 W ∧ Below wd2.heap.size wd2 W) wd2 := ⟨hH113, Below.refl _ _⟩
      refine wpAnyH_grow (S' := (fun W => Below w2.heap.size w2 W ∧ Below wd2.heap.size wd2 W)) (fun _ h => h.1) _ _ _ _ ?_
      refine wpAnyH_take (i := 10) (oi := { dst := some 27, op := Op.convert 28 9 (Operand.tmp 26), type := 9, pos := "ref.go:427", after := #[{ on := 9, ground := Ground.data }, { on := 7, ground := Ground.guard }], guard := some (7, true) }) (v := ?tkv114) rfl (by kernel_rfl) (by kernel_rfl) (by kernel_rfl) (fun _ _ _ h => h) (Or.inl ⟨by rfl, ?tky114⟩) hG113 ?tkr114
      case tky114 => (intro w' hSw; have z0 := HFX.out _ hSw.1; have z1 := HKY.out _ hSw.2; clear hSw; go_simp; try with_reducible rfl)
      try simp only [Act.put, List.setIfInBounds_toArray, List.set_cons_zero, List.set_cons_succ]
      refine wpAnyH_take (i := 14) (oi := { dst := some 31, op := Op.binOp BinOp.eql 9 (Operand.tmp 27) (Operand.tmp 30) 9, type := 4, pos := "ref.go:427", after := #[{ on := 10, ground := Ground.data }, { on := 13, ground := Ground.data }, { on := 7, ground := Ground.guard }], guard := some (7, true) }) (v := ?tkv115) rfl (by kernel_rfl) (by kernel_rfl) (by kernel_rfl) (fun _ _ _ h => h) (Or.inl ⟨by rfl, ?tky115⟩) hG113 ?tkr115
      case tky115 => (intro w' hSw; clear hSw; go_simp; try with_reducible rfl)
      try simp only [Act.put, List.setIfInBounds_toArray, List.set_cons_zero, List.set_cons_succ]
      refine wpAnyH_take (i := 15) (oi := { dst := some 32, op := Op.pick (Operand.tmp 24) (Operand.tmp 31) (Operand.const (Value.bool false)), type := 4, pos := "ref.go:427", after := #[{ on := 7, ground := Ground.data }, { on := 14, ground := Ground.data }], guard := none }) (v := ?tkv116) rfl (by kernel_rfl) (by kernel_rfl) (by kernel_rfl) (fun _ _ _ h => h) (Or.inl ⟨by rfl, ?tky116⟩) hG113 ?tkr116
      case tky116 => (intro w' hSw; clear hSw; go_simp; try with_reducible rfl)
      try simp only [Act.put, List.setIfInBounds_toArray, List.set_cons_zero, List.set_cons_succ]
      refine wpAnyH_take (i := 16) (oi := { dst := some 6, op := Op.assign (Operand.tmp 32), type := 4, pos := "ref.go:427", after := #[{ on := 15, ground := Ground.data }, { on := 9, ground := Ground.chain }, { on := 0, ground := Ground.phase }, { on := 1, ground := Ground.phase }, { on := 2, ground := Ground.phase }, { on := 3, ground := Ground.phase }, { on := 4, ground := Ground.phase }, { on := 5, ground := Ground.phase }, { on := 6, ground := Ground.phase }, { on := 7, ground := Ground.phase }, { on := 8, ground := Ground.phase }, { on := 9, ground := Ground.phase }, { on := 10, ground := Ground.phase }, { on := 11, ground := Ground.phase }, { on := 12, ground := Ground.phase }, { on := 13, ground := Ground.phase }, { on := 14, ground := Ground.phase }, { on := 15, ground := Ground.phase }], guard := none }) (v := ?tkv117) rfl (by kernel_rfl) (by kernel_rfl) (by kernel_rfl) (fun _ _ _ h => h) (Or.inl ⟨by rfl, ?tky117⟩) hG113 ?tkr117
      case tky117 => (intro w' hSw; clear hSw; go_simp; try with_reducible rfl)
      try simp only [Act.put, List.setIfInBounds_toArray, List.set_cons_zero, List.set_cons_succ]
      refine wpAnyH_done (by kernel_rfl) ?_ _
      refine NoPanic.normal ?_
      have hEnd : Below w2.heap.size w2 _ := hG113.1
      have HE := Lib.hid (HB2.out.trans (hEnd.mono HB2.out.size))
      go_wp2_with fail
      go_ret
      exact ⟨by rw [HBB.out]; rfl, HE⟩
    · have hkf : (k == 0) = false := by simpa using hk
      have hm1i : (1 : Int) ≤ m := by omega
      have HBB : Hid (bb = false) := by show _ = _; rw [hbb, hkf]; simp
      clear hn2 hr2 HZ2 HH2 hm1 hk hbb
      go_upto_region 2 with fail
      go_quiet (fail)
      go_wp2_with fail
      go_ret
      exact ⟨by rw [HBB.out]; rfl, below_drewN HB2.out _⟩
  · obtain rfl : m = 0 := by omega
    have HBB : Hid (bb = false) := by show _ = _; rw [hbb]; simp
    have HFX : Hid (∀ W, Below w2.heap.size w2 W → W.cell? ⟨w.heap.size, 1, none⟩ = some (.int .i64 0)) := Lib.hid fun W hW => (c3 ((hW.block w.heap.size hsz).trans HZ2.out)).2.1
    clear hn2 hr2 HZ2 HH2 hm1 hbb y0 y1 y2
    go_upto_region 2 with fail
    refine wp_region_noPanic ?_
    refine wp_region_held_drew (S := (fun W => Below w2.heap.size w2 W)) (by kernel_rfl) (Below.refl _ _).drew (fun hH0 => ?_)
    have hH0 : Below w2.heap.size w2 w2.drew := hH0
    generalize w2.drew = wd at *
    refine wpAnyH_take (i := 0) (oi := { dst := some 17, op := Op.fieldAddr 33 (Operand.tmp 5) 1, type := 0, pos := "ref.go:427", after := #[], guard := none }) (v := ?tkv301) rfl (by kernel_rfl) (by kernel_rfl) (by kernel_rfl) (fun _ _ _ h => h) (Or.inl ⟨by rfl, ?tky301⟩) hH0 ?tkr301
    case tky301 => (intro w' hSw; clear hSw; go_simp; try with_reducible rfl)
    try simp only [Act.put, List.setIfInBounds_toArray, List.set_cons_zero, List.set_cons_succ]
    refine wpAnyH_take (i := 1) (oi := { dst := some 18, op := Op.load 3 (Operand.tmp 17), type := 3, pos := "ref.go:427", after := #[{ on := 0, ground := Ground.data }], guard := none }) (v := ?tkv302) rfl (by kernel_rfl) (by kernel_rfl) (by kernel_rfl) (fun _ _ _ h => h) (Or.inl ⟨by rfl, ?tky302⟩) hH0 ?tkr302
    case tky302 => (intro w' hSw; have z0 := HFX.out _ hSw; clear hSw; go_simp; try with_reducible rfl)
    try simp only [Act.put, List.setIfInBounds_toArray, List.set_cons_zero, List.set_cons_succ]
    refine wpAnyH_take (i := 2) (oi := { dst := some 19, op := Op.binOp BinOp.geq 3 (Operand.tmp 18) (Operand.const (Value.int IntKind.i64 1)) 3, type := 4, pos := "ref.go:427", after := #[{ on := 1, ground := Ground.data }], guard := none }) (v := ?tkv303) rfl (by kernel_rfl) (by kernel_rfl) (by kernel_rfl) (fun _ _ _ h => h) (Or.inl ⟨by rfl, ?tky303⟩) hH0 ?tkr303
    case tky303 => (intro w' hSw; clear hSw; go_simp; try with_reducible rfl)
    try simp only [Act.put, List.setIfInBounds_toArray, List.set_cons_zero, List.set_cons_succ]
    refine wpAnyH_take (i := 3) (oi := { dst := some 20, op := Op.move (Operand.tmp 19), type := 4, pos := "ref.go:427", after := #[{ on := 2, ground := Ground.data }], guard := none }) (v := ?tkv304) rfl (by kernel_rfl) (by kernel_rfl) (by kernel_rfl) (fun _ _ _ h => h) (Or.inl ⟨by rfl, ?tky304⟩) hH0 ?tkr304
    case tky304 => (intro w' hSw; clear hSw; go_simp; try with_reducible rfl)
    try simp only [Act.put, List.setIfInBounds_toArray, List.set_cons_zero, List.set_cons_succ]
    refine wpAnyH_take (i := 4) (oi := { dst := some 21, op := Op.move (Operand.tmp 8), type := 36, pos := "ref.go:427", after := #[{ on := 3, ground := Ground.guard }], guard := some (3, true) }) (v := undef) rfl (by kernel_rfl) (by kernel_rfl) (by kernel_rfl) (fun _ _ _ h => h) (Or.inr ⟨by rfl, rfl⟩) hH0 ?tkr305
    try simp only [Act.put, List.setIfInBounds_toArray, List.set_cons_zero, List.set_cons_succ]
    refine wpAnyH_take (i := 5) (oi := { dst := some 22, op := Op.binOp BinOp.eql 36 (Operand.tmp 21) (Operand.const (Value.int IntKind.i64 0)) 36, type := 4, pos := "ref.go:427", after := #[{ on := 4, ground := Ground.data }, { on := 3, ground := Ground.guard }], guard := some (3, true) }) (v := undef) rfl (by kernel_rfl) (by kernel_rfl) (by kernel_rfl) (fun _ _ _ h => h) (Or.inr ⟨by rfl, rfl⟩) hH0 ?tkr306
    try simp only [Act.put, List.setIfInBounds_toArray, List.set_cons_zero, List.set_cons_succ]
    refine wpAnyH_take (i := 6) (oi := { dst := some 23, op := Op.pick (Operand.tmp 20) (Operand.tmp 22) (Operand.const (Value.bool false)), type := 4, pos := "ref.go:427", after := #[{ on := 3, ground := Ground.data }, { on := 5, ground := Ground.data }], guard := none }) (v := ?tkv307) rfl (by kernel_rfl) (by kernel_rfl) (by kernel_rfl) (fun _ _ _ h => h) (Or.inl ⟨by rfl, ?tky307⟩) hH0 ?tkr307
    case tky307 => (intro w' hSw; clear hSw; go_simp; try with_reducible rfl)
    try simp only [Act.put, List.setIfInBounds_toArray, List.set_cons_zero, List.set_cons_succ]
    refine wpAnyH_take (i := 7) (oi := { dst := some 24, op := Op.move (Operand.tmp 23), type := 4, pos := "ref.go:427", after := #[{ on := 6, ground := Ground.data }, { on := 3, ground := Ground.chain }], guard := none }) (v := ?tkv308) rfl (by kernel_rfl) (by kernel_rfl) (by kernel_rfl) (fun _ _ _ h => h) (Or.inl ⟨by rfl, ?tky308⟩) hH0 ?tkr308
    case tky308 => (intro w' hSw; clear hSw; go_simp; try with_reducible rfl)
    try simp only [Act.put, List.setIfInBounds_toArray, List.set_cons_zero, List.set_cons_succ]
    refine wpAnyH_take (i := 8) (oi := { dst := some 25, op := Op.move (Operand.tmp 7), type := 28, pos := "ref.go:427", after := #[{ on := 7, ground := Ground.guard }], guard := some (7, true) }) (v := undef) rfl (by kernel_rfl) (by kernel_rfl) (by kernel_rfl) (fun _ _ _ h => h) (Or.inr ⟨by rfl, rfl⟩) hH0 ?tkr309
    try simp only [Act.put, List.setIfInBounds_toArray, List.set_cons_zero, List.set_cons_succ]
    refine wpAnyH_take (i := 9) (oi := { dst := some 26, op := Op.call { callee := Callee.value (Operand.func 26), args := #[Operand.tmp 25], argTypes := #[28] }, type := 28, pos := "ref.go:427", after := #[{ on := 8, ground := Ground.data }, { on := 7, ground := Ground.chain }, { on := 7, ground := Ground.guard }], guard := some (7, true) }) (v := undef) rfl (by kernel_rfl) (by kernel_rfl) (by kernel_rfl) (fun _ _ _ h => h) (Or.inr ⟨by rfl, rfl⟩) hH0 ?tkr310
    try simp only [Act.put, List.setIfInBounds_toArray, List.set_cons_zero, List.set_cons_succ]
    refine wpAnyH_take (i := 10) (oi := { dst := some 27, op := Op.convert 28 9 (Operand.tmp 26), type := 9, pos := "ref.go:427", after := #[{ on := 9, ground := Ground.data }, { on := 7, ground := Ground.guard }], guard := some (7, true) }) (v := undef) rfl (by kernel_rfl) (by kernel_rfl) (by kernel_rfl) (fun _ _ _ h => h) (Or.inr ⟨by rfl, rfl⟩) hH0 ?tkr311
    try simp only [Act.put, List.setIfInBounds_toArray, List.set_cons_zero, List.set_cons_succ]
    refine wpAnyH_take (i := 11) (oi := { dst := some 28, op := Op.fieldAddr 33 (Operand.tmp 5) 2, type := 0, pos := "ref.go:427", after := #[{ on := 7, ground := Ground.guard }], guard := some (7, true) }) (v := undef) rfl (by kernel_rfl) (by kernel_rfl) (by kernel_rfl) (fun _ _ _ h => h) (Or.inr ⟨by rfl, rfl⟩) hH0 ?tkr312
    try simp only [Act.put, List.setIfInBounds_toArray, List.set_cons_zero, List.set_cons_succ]
    refine wpAnyH_take (i := 12) (oi := { dst := some 29, op := Op.load 28 (Operand.tmp 28), type := 28, pos := "ref.go:427", after := #[{ on := 11, ground := Ground.data }, { on := 7, ground := Ground.guard }], guard := some (7, true) }) (v := undef) rfl (by kernel_rfl) (by kernel_rfl) (by kernel_rfl) (fun _ _ _ h => h) (Or.inr ⟨by rfl, rfl⟩) hH0 ?tkr313
    try simp only [Act.put, List.setIfInBounds_toArray, List.set_cons_zero, List.set_cons_succ]
    refine wpAnyH_take (i := 13) (oi := { dst := some 30, op := Op.convert 28 9 (Operand.tmp 29), type := 9, pos := "ref.go:427", after := #[{ on := 12, ground := Ground.data }, { on := 7, ground := Ground.guard }], guard := some (7, true) }) (v := undef) rfl (by kernel_rfl) (by kernel_rfl) (by kernel_rfl) (fun _ _ _ h => h) (Or.inr ⟨by rfl, rfl⟩) hH0 ?tkr314
    try simp only [Act.put, List.setIfInBounds_toArray, List.set_cons_zero, List.set_cons_succ]
    refine wpAnyH_take (i := 14) (oi := { dst := some 31, op := Op.binOp BinOp.eql 9 (Operand.tmp 27) (Operand.tmp 30) 9, type := 4, pos := "ref.go:427", after := #[{ on := 10, ground := Ground.data }, { on := 13, ground := Ground.data }, { on := 7, ground := Ground.guard }], guard := some (7, true) }) (v := undef) rfl (by kernel_rfl) (by kernel_rfl) (by kernel_rfl) (fun _ _ _ h => h) (Or.inr ⟨by rfl, rfl⟩) hH0 ?tkr315
    try simp only [Act.put, List.setIfInBounds_toArray, List.set_cons_zero, List.set_cons_succ]
    refine wpAnyH_take (i := 15) (oi := { dst := some 32, op := Op.pick (Operand.tmp 24) (Operand.tmp 31) (Operand.const (Value.bool false)), type := 4, pos := "ref.go:427", after := #[{ on := 7, ground := Ground.data }, { on := 14, ground := Ground.data }], guard := none }) (v := ?tkv316) rfl (by kernel_rfl) (by kernel_rfl) (by kernel_rfl) (fun _ _ _ h => h) (Or.inl ⟨by rfl, ?tky316⟩) hH0 ?tkr316
    case tky316 => (intro w' hSw; clear hSw; go_simp; try with_reducible rfl)
    try simp only [Act.put, List.setIfInBounds_toArray, List.set_cons_zero, List.set_cons_succ]
    refine wpAnyH_take (i := 16) (oi := { dst := some 6, op := Op.assign (Operand.tmp 32), type := 4, pos := "ref.go:427", after := #[{ on := 15, ground := Ground.data }, { on := 9, ground := Ground.chain }, { on := 0, ground := Ground.phase }, { on := 1, ground := Ground.phase }, { on := 2, ground := Ground.phase }, { on := 3, ground := Ground.phase }, { on := 4, ground := Ground.phase }, { on := 5, ground := Ground.phase }, { on := 6, ground := Ground.phase }, { on := 7, ground := Ground.phase }, { on := 8, ground := Ground.phase }, { on := 9, ground := Ground.phase }, { on := 10, ground := Ground.phase }, { on := 11, ground := Ground.phase }, { on := 12, ground := Ground.phase }, { on := 13, ground := Ground.phase }, { on := 14, ground := Ground.phase }, { on := 15, ground := Ground.phase }], guard := none }) (v := ?tkv317) rfl (by kernel_rfl) (by kernel_rfl) (by kernel_rfl) (fun _ _ _ h => h) (Or.inl ⟨by rfl, ?tky317⟩) hH0 ?tkr317
    case tky317 => (intro w' hSw; clear hSw; go_simp; try with_reducible rfl)
    try simp only [Act.put, List.setIfInBounds_toArray, List.set_cons_zero, List.set_cons_succ]
    refine wpAnyH_done (by kernel_rfl) ?_ _
    refine NoPanic.normal ?_
    have hEnd : Below w2.heap.size w2 _ := hH0
    have HE := Lib.hid (HB2.out.trans (hEnd.mono HB2.out.size))
    go_wp2_with fail
    go_ret
    exact ⟨by rw [HBB.out]; rfl, HE⟩
end Go.Proofs.YtgfdpondnkcogaaDoor
namespace Go.Proofs.YtgfdpondnkcogaaDoor
open Go.RowKit
/-- what a write of a slot makes of flash, and tells -/
def SWrIs (f : Fl) (x : Int) (l : List UInt8) (r : Fl × Int) : Prop :=
  ((¬ (x = 0 ∨ x = 1) ∨ l.length < 1 ∨ 512 < l.length) ∧ r = (f, 1)) ∨ (∃ s : Nat, x = s ∧ (s = 0 ∨ s = 1) ∧ 1 ≤ l.length ∧ l.length ≤ 512 ∧ ((f.down = true ∧ r = (f, 11)) ∨ (f.down = false ∧ r = f.swrite (2 + 2 * s) l)))
theorem swr_any (f : Fl) (x : Int) (l : List UInt8) : ∃ r, SWrIs f x l r := by
  by_cases h : ¬ (x = 0 ∨ x = 1) ∨ l.length < 1 ∨ 512 < l.length
  · exact ⟨_, .inl ⟨h, rfl⟩⟩
  · cases hd : f.down with
    | true => exact ⟨_, .inr ⟨x.toNat, by omega, by omega, by omega, by omega, .inl ⟨hd, rfl⟩⟩⟩
    | false => exact ⟨_, .inr ⟨x.toNat, by omega, by omega, by omega, by omega, .inr ⟨hd, rfl⟩⟩⟩
theorem SWrIs.ok {f : Fl} {x : Int} {l : List UInt8} {r : Fl × Int} {k : Int} (h : SWrIs f x l r) (hok : f.Ok k) : r.1.Ok (k + 514) := by
  rcases h with ⟨_, rfl⟩ | ⟨s, _, _, _, hl, ⟨_, rfl⟩ | ⟨_, rfl⟩⟩
  · exact hok.more (by omega)
  · exact hok.more (by omega)
  · exact hok.swrite _ l hl
theorem sdone_below {g : Nat} {f : Fl} {w w' : World} (hf : FlAt w g f) (hb : Below w.heap.size w w') : Done g f w w' :=
  ⟨hf.below hb, hb.os, hb.tape, hb.output, hb.size, fun j hj _ => hb.block j hj⟩
theorem swrite_is (g B m cap : Nat) (x : Int) (A : Option Addr) (l : List UInt8) (f : Fl) (w : World) (r : Fl × Int) (K : Int) (hf : FlAt w g f) (hl : Row w B A m (bv l)) (hA : 0 < m → ∀ b o, A = some ⟨b, o, none⟩ → b ≠ g) (hB : B ≤ w.heap.size)
    (hok : f.Ok K) (hK : K ≤ 1000000) (h : SWrIs f x l r) : Calls Tryd.prog 13 #[.pointer (some ⟨g, 0, none⟩), .int .i64 x, .slice A m cap] w fun e w' => e = .returned (.int .i64 r.2) ∧ Done g r.1 w w' := by
  have hbl := hl.blen
  rcases h with ⟨h, rfl⟩ | ⟨s, rfl, hs, h1, h2, ⟨hd, rfl⟩ | ⟨hd, rfl⟩⟩
  · by_cases hx : x = 0 ∨ x = 1
    · obtain ⟨s, rfl⟩ : ∃ s : Nat, x = s := ⟨x.toNat, by omega⟩
      refine (swrite_badlen g s m cap A w (by omega) (by omega)).mono ?_
      rintro e w' ⟨rfl, rfl⟩
      exact ⟨rfl, sdone_below hf (Below.refl _ _)⟩
    · refine (swrite_noslot g m cap x A w (by omega) (by omega)).mono ?_
      rintro e w' ⟨rfl, rfl⟩
      exact ⟨rfl, sdone_below hf (Below.refl _ _)⟩
  · refine (swrite_down g s m cap A f w hf hd hs (by omega) (by omega)).mono ?_
    rintro e w' ⟨rfl, rfl⟩
    exact ⟨rfl, sdone_below hf (Below.refl _ _)⟩
  · refine (swrite_any g s (2 + 2 * s) B m cap A l f w K hf hl hA hB hd hs rfl (by omega) (by omega) hok hK).mono ?_
    rintro e w' ⟨rfl, hdd⟩
    exact ⟨rfl, hdd.out⟩
theorem rswrite_is (gm gB B m cap : Nat) (x : Int) (A : Option Addr) (l : List UInt8) (f : Fl) (w : World) (r : Fl × Int) (K : Int) (hf : RfAt w gm gB f) (hl : Row w B A m (bv l)) (hA : 0 < m → ∀ b o, A = some ⟨b, o, none⟩ → b ≠ gm ∧ b ≠ gB) (hB : B ≤ w.heap.size)
    (hok : f.Ok K) (hK : K ≤ 1000000) (h : SWrIs f x l r) : Calls Tryd.prog 14 #[.pointer (some ⟨gm, 0, none⟩), .int .i64 x, .slice A m cap] w fun e w' => e = .returned (.int .i64 r.2) ∧ RDone gm gB r.1 w w' := by
  have hbl := hl.blen
  rcases h with ⟨h, rfl⟩ | ⟨s, rfl, hs, h1, h2, ⟨hd, rfl⟩ | ⟨hd, rfl⟩⟩
  · refine (rswrite_no gm x m cap A w (by omega)).mono ?_
    rintro e w' ⟨rfl, rfl⟩
    exact ⟨rfl, rdone_refl hf⟩
  · refine (rswrite_down gm gB s m cap A f w hf hd hs (by omega) (by omega)).mono ?_
    rintro e w' ⟨rfl, rfl⟩
    exact ⟨rfl, rdone_refl hf⟩
  · rcases hs with rfl | rfl
    · refine (rswrite_0 gm gB B m cap A l f w K hf hl hA hB hd (by omega) (by omega) hok hK).mono ?_
      rintro e w' ⟨rfl, hdd⟩
      exact ⟨rfl, hdd.out⟩
    · refine (rswrite_1 gm gB B m cap A l f w K hf hl hA hB hd (by omega) (by omega) hok hK).mono ?_
      rintro e w' ⟨rfl, hdd⟩
      exact ⟨rfl, hdd.out⟩
set_option maxRecDepth 100000 in
set_option maxHeartbeats 1600000 in
theorem right_er (p : Option Addr) (x k : Int) (v m n c : Nat) (A : Option Addr) (w : World) (hm1 : 1 ≤ m) (hm : m ≤ 512) (hk : k ≠ 0)
    (hr : ∀ W, Below w.heap.size w W → Calls Tryd.prog 15 #[.pointer p, .int .i64 x, .int .i64 (m : Int)] W fun e w' => ∃ A n c, e = .returned (.tuple #[.slice A n c, .int .i64 k]) ∧ Below W.heap.size W w') :
    Calls Tryd.prog 17 #[.pointer p, .int .i64 x, .agg #[.int .u32 (v : Int), .int .i64 (m : Int), .slice A n c]] w fun e w' => e = .returned (.bool false) ∧ Hid (Below w.heap.size w w') := by
  have hb0 : Below w.heap.size w (w.alloc (.cells #[.int .u32 (v : Int), .int .i64 (m : Int), .slice A n c] 33)) := (Below.refl _ _).alloc (Nat.le_refl _) _
  have HFT := Lib.hid (fits_yes m (w.alloc (.cells #[.int .u32 (v : Int), .int .i64 (m : Int), .slice A n c] 33)) hm1 hm)
  have HRD := Lib.hid (hr _ hb0)
  have HZ := Lib.hid (heap_alloc_new w (.cells #[.int .u32 (v : Int), .int .i64 (m : Int), .slice A n c] 33))
  have HB0 := Lib.hid hb0
  have hkf : (k == 0) = false := by simpa using hk
  obtain ⟨y0, y1, y2⟩ := c3 HZ.out
  clear hb0 hr hk
  go_enter Tryd.func17, Tryd.ntmps17
  go_wp2_with fail
  refine HFT.out.mono ?_
  rintro e w' ⟨rfl, rfl⟩
  go_wp2_with fail
  refine HRD.out.mono ?_
  rintro e w2 ⟨A2, n2, c2, rfl, hb2⟩
  have HB2 : Hid (Below w.heap.size w w2) := HB0.out.trans (hb2.mono HB0.out.size)
  clear y0 y1 y2 HRD HZ HB0 hb2 HFT
  go_upto_region 4 with fail
  go_quiet (fail)
  go_wp2_with fail
  go_ret
  exact ⟨rfl, below_drewN HB2.out _⟩
theorem right_is (g v n m c : Nat) (x : Int) (A : Option Addr) (h : List UInt8) (f : Fl) (d : List UInt8) (k : Int) (w : World) (ht : Sh.Tab w) (hf : FlAt w g f) (hs : SRd f x m d k) (hm : m ≤ 512) (hh : Row w w.heap.size A n (bv h)) (bb : Bool) (hbb : bb = (decide (1 ≤ m) && (k == 0) && (Sha.D d == h))) :
    Calls Tryd.prog 17 #[.pointer (some ⟨g, 0, none⟩), .int .i64 x, .agg #[.int .u32 (v : Int), .int .i64 (m : Int), .slice A n c]] w fun e w' => e = .returned (.bool bb) ∧ Hid (Below w.heap.size w w') := by
  by_cases h1 : 1 ≤ m
  · by_cases hk : k = 0
    · rcases hs with ⟨_, _, e⟩ | ⟨_, _, _, _, _, e⟩ | ⟨s, m', rfl, hs, e, _, hd, rfl, rfl⟩
      · omega
      · omega
      · obtain rfl : m = m' := by omega
        refine (right_any g s (2 + 2 * s) v n m c A h f w ht hf hd hs rfl h1 hm hh).mono ?_
        rintro e w' ⟨rfl, hb⟩
        refine ⟨?_, hb⟩
        rw [hbb]
        simp [h1]
    · refine (right_er _ x k v m n c A w h1 hm hk (fun W hW => (sread_is g f x m d k W (hf.below hW) hs).mono ?_)).mono ?_
      · rintro e w' ⟨A, n, c, rfl, _, _, hb⟩
        exact ⟨A, n, c, rfl, hb.out⟩
      · rintro e w' ⟨rfl, hb⟩
        refine ⟨?_, hb⟩
        rw [hbb]
        simp [hk]
  · refine (right_len _ x m v n c A w (by omega)).mono ?_
    rintro e w' ⟨rfl, hb⟩
    refine ⟨?_, hb⟩
    rw [hbb]
    simp [h1]
end Go.Proofs.YtgfdpondnkcogaaDoor
namespace Go.Proofs.YtgfdpondnkcogaaDoor
open Go.RowKit
/-- what is known of a slot that holds l: version, length, hash -/
def SoIs (v n : Nat) (l : List UInt8) (V M k : Nat) (H : List UInt8) (O : Bool) : Prop :=
  (1 ≤ n ∧ n ≤ 512 ∧ V = v ∧ M = n ∧ k = 32 ∧ H = Sha.D l ∧ O = true) ∨ ((n < 1 ∨ 512 < n) ∧ V = 0 ∧ M = 0 ∧ k = 0 ∧ H = [] ∧ O = false)
theorem so_any (v n : Nat) (l : List UInt8) : ∃ V M k H O, SoIs v n l V M k H O ∧ M ≤ 512 := by
  by_cases h : 1 ≤ n ∧ n ≤ 512
  · exact ⟨_, _, _, _, _, .inl ⟨h.1, h.2, rfl, rfl, rfl, rfl, rfl⟩, h.2⟩
  · exact ⟨_, _, _, _, _, .inr ⟨by omega, rfl, rfl, rfl, rfl, rfl⟩, by omega⟩
def SoOk (V M k : Nat) (H : List UInt8) (O : Bool) (w : World) (e : Ending) (w' : World) : Prop :=
  ∃ A c, e = .returned (.tuple #[.agg #[.int .u32 (V : Int), .int .i64 (M : Int), .slice A k c], .bool O]) ∧ Hid (Row w' w'.heap.size A k (bv H)) ∧ Hid (Below w.heap.size w w')
theorem sof_is (v n B cap V M k : Nat) (H : List UInt8) (O : Bool) (A : Option Addr) (l : List UInt8) (w : World) (ht : Sh.Tab w) (hl : Row w B A n (bv l)) (hB : B ≤ w.heap.size) (h : SoIs v n l V M k H O) :
    Calls Tryd.prog 11 #[.int .u32 (v : Int), .slice A n cap] w (SoOk V M k H O w) := by
  rcases h with ⟨h1, h2, rfl, rfl, rfl, rfl, rfl⟩ | ⟨h, rfl, rfl, rfl, rfl, rfl⟩
  · refine (sof_yes _ _ B cap A l w ht hl hB h1 h2).mono ?_
    rintro e w' ⟨A, c, rfl, hr, _, _, hb⟩
    exact ⟨A, c, rfl, hr, hb⟩
  · refine (sof_no _ n cap A w h).mono ?_
    rintro e w' ⟨rfl, hb⟩
    exact ⟨none, 0, rfl, Row.nil _ _ _, hb⟩
theorem rsof_is (v n B cap V M k : Nat) (H : List UInt8) (O : Bool) (A : Option Addr) (l : List UInt8) (w : World) (hl : Row w B A n (bv l)) (hB : B ≤ w.heap.size) (h : SoIs v n l V M k H O) :
    Calls Tryd.prog 12 #[.int .u32 (v : Int), .slice A n cap] w (SoOk V M k H O w) := by
  rcases h with ⟨h1, h2, rfl, rfl, rfl, rfl, rfl⟩ | ⟨h, rfl, rfl, rfl, rfl, rfl⟩
  · refine (rsof_yes _ _ B cap A l w hl hB h1 h2).mono ?_
    rintro e w' ⟨A, c, rfl, hr, _, _, hb⟩
    exact ⟨A, c, rfl, hr, hb⟩
  · refine (rsof_no _ n cap A w h).mono ?_
    rintro e w' ⟨rfl, hb⟩
    exact ⟨none, 0, rfl, Row.nil _ _ _, hb⟩
end Go.Proofs.YtgfdpondnkcogaaDoor
