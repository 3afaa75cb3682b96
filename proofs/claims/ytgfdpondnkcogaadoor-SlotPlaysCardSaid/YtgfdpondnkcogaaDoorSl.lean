/- slot.Read, Write: by contracts, where there is power. -/
import Derived.Test.YtgfdpondnkcogaaDoorSlM
import Derived.Test.YtgfdpondnkcogaaDoorStSame
namespace Go.Proofs.YtgfdpondnkcogaaDoor
open Go.RowKit
theorem done_below {g : Nat} {f : Fl} {w w1 w2 : World} (h : Done g f w w1) (hb : Below w1.heap.size w1 w2) : Done g f w w2 :=
  ⟨h.1.below hb, ⟨hb.os.trans h.2.os, hb.tape.trans h.2.tape, hb.output.trans h.2.output, Nat.le_trans h.2.size hb.size, fun j hj hr => (hb.block j (Nat.lt_of_lt_of_le hj h.2.size)).trans (h.2.block j hj hr)⟩⟩
theorem done_refl {g : Nat} {f : Fl} {w : World} (h : FlAt w g f) : Done g f w w := ⟨h, ⟨rfl, rfl, rfl, Nat.le_refl _, fun _ _ _ => rfl⟩⟩
theorem fits_yes (n : Nat) (w : World) (h1 : 1 ≤ n) (h2 : n ≤ 512) : Calls Tryd.prog 30 #[.int .i64 (n : Int)] w fun e w' => e = .returned (.bool true) ∧ w = w' := by
  have h1' : (1 : Int) ≤ n := by omega
  have HD : Hid (decide ((n : Int) ≤ 512) = true) := decide_eq_true (by omega)
  clear h1 h2
  go_enter Tryd.func30, Tryd.ntmps30
  go_wp2_with fail
  go_ret
  exact ⟨by show Ending.returned (.bool (decide ((n : Int) ≤ 512))) = _; rw [HD.out], rfl⟩
theorem fits_no (x : Int) (w : World) (h : x < 1 ∨ 512 < x) : Calls Tryd.prog 30 #[.int .i64 x] w fun e w' => e = .returned (.bool false) ∧ w = w' := by
  by_cases h1 : x < 1
  · clear h
    go_enter Tryd.func30, Tryd.ntmps30
    go_wp2_with fail
    go_ret
    exact ⟨rfl, rfl⟩
  · have h2 : 512 < x := by omega
    have h3 : 1 ≤ x := by omega
    have HD : Hid (decide (x ≤ 512) = false) := decide_eq_false (by omega)
    clear h h1 h2
    go_enter Tryd.func30, Tryd.ntmps30
    go_wp2_with fail
    go_ret
    exact ⟨by show Ending.returned (.bool (decide (x ≤ 512))) = _; rw [HD.out], rfl⟩
theorem there_yes (s : Nat) (w : World) (h : s = 0 ∨ s = 1) : Calls Tryd.prog 31 #[.int .i64 (s : Int)] w fun e w' => e = .returned (.bool true) ∧ w = w' := by
  rcases h with rfl | rfl
  · go_enter Tryd.func31, Tryd.ntmps31
    go_wp2_with fail
    go_ret
    exact ⟨rfl, rfl⟩
  · go_enter Tryd.func31, Tryd.ntmps31
    go_wp2_with fail
    go_ret
    exact ⟨rfl, rfl⟩
theorem there_no (x : Int) (w : World) (h0 : ¬ x = 0) (h1 : ¬ x = 1) : Calls Tryd.prog 31 #[.int .i64 x] w fun e w' => e = .returned (.bool false) ∧ w = w' := by
  have q0 : (x == 0) = false := by simpa using h0
  have q1 : (x == 1) = false := by simpa using h1
  clear h0 h1
  go_enter Tryd.func31, Tryd.ntmps31
  go_wp2_with fail
  go_ret
  exact ⟨rfl, rfl⟩
theorem sfirst_any (s a : Nat) (w : World) (hs : s = 0 ∨ s = 1) (h : a = 2 + 2 * s) : Calls Tryd.prog 34 #[.int .i64 (s : Int)] w fun e w' => e = .returned (.int .i64 (a : Int)) ∧ w = w' := by
  subst h
  rcases hs with rfl | rfl
  · go_enter Tryd.func34, Tryd.ntmps34
    go_wp2_with fail
    go_ret
    exact ⟨rfl, rfl⟩
  · go_enter Tryd.func34, Tryd.ntmps34
    go_wp2_with fail
    go_ret
    exact ⟨rfl, rfl⟩
set_option maxRecDepth 100000 in
set_option maxHeartbeats 800000 in
theorem sread_any (g s a n : Nat) (f : Fl) (w : World) (hf : FlAt w g f) (hd : f.down = false) (hs : s = 0 ∨ s = 1) (ha : a = 2 + 2 * s) (hn : n ≤ 512) :
    Calls Tryd.prog 15 #[.pointer (some ⟨g, 0, none⟩), .int .i64 (s : Int), .int .i64 (n : Int)] w (ReadOk (f.sub (256 * a) n) w) := by
  have hs1 : s ≤ 1 := by omega
  have ha4 : a ≤ 4 := by omega
  have HT := Lib.hid (there_yes s w hs)
  have HFI := Lib.hid (sfirst_any s a w hs ha)
  have HR := Lib.hid (read_at (g := g) (a := 256 * a) (n := n) ((a : Int) * 256) (n : Int) (by push_cast; omega) rfl hf hd (by omega))
  clear hf hd hs ha
  by_cases h0 : n = 0
  · subst h0
    go_enter Tryd.func15, Tryd.ntmps15
    go_wp2_with fail
    refine HT.out.mono ?_
    rintro e w' ⟨rfl, rfl⟩
    go_wp2_with fail
    refine HFI.out.mono ?_
    rintro e w' ⟨rfl, rfl⟩
    go_wp2_with fail
    refine HR.out.mono ?_
    rintro e w1 ⟨A1, n1, c1, rfl, hn1, hown, hb⟩
    go_wp2_with fail
    go_ret2
    exact ⟨A1, n1, c1, rfl, hn1, hown, hb⟩
  · have h0' : ((n : Int) != 0) = true := bne_iff_ne.2 (by omega)
    have HFT := Lib.hid (fits_yes n w (by omega) hn)
    clear h0
    go_enter Tryd.func15, Tryd.ntmps15
    go_wp2_with fail
    refine HT.out.mono ?_
    rintro e w' ⟨rfl, rfl⟩
    go_wp2_with fail
    refine HFT.out.mono ?_
    rintro e w' ⟨rfl, rfl⟩
    go_wp2_with fail
    refine HFI.out.mono ?_
    rintro e w' ⟨rfl, rfl⟩
    go_wp2_with fail
    refine HR.out.mono ?_
    rintro e w1 ⟨A1, n1, c1, rfl, hn1, hown, hb⟩
    go_wp2_with fail
    go_ret2
    exact ⟨A1, n1, c1, rfl, hn1, hown, hb⟩
theorem sread_no (p : Option Addr) (x y : Int) (w : World) (h0 : ¬ x = 0) (h1 : ¬ x = 1) : Calls Tryd.prog 15 #[.pointer p, .int .i64 x, .int .i64 y] w fun e w' => e = .returned (.tuple #[.slice none 0 0, .int .i64 1]) ∧ w = w' := by
  have HT := Lib.hid (there_no x w h0 h1)
  clear h0 h1
  go_enter Tryd.func15, Tryd.ntmps15
  go_wp2_with fail
  refine HT.out.mono ?_
  rintro e w' ⟨rfl, rfl⟩
  go_wp2_with fail
  go_ret2
  exact ⟨rfl, rfl⟩
/-- so many of the two sectors cleaned -/
def CleanTo (f : Fl) (a : Nat) (K : Int) (k : Nat) (fk : Fl) : Prop :=
  fk.down = false ∧ fk.Ok (K + k) ∧ (k = 0 ∧ fk = f ∨ k = 1 ∧ f.clean1 a = (fk, 0) ∨ k = 2 ∧ f.cleanS a = (fk, 0))
theorem CleanTo.next {f fk f' : Fl} {a k : Nat} {K : Int} (h : CleanTo f a K k fk) (hk : k < 2) (e : fk.clean1 (a + k) = (f', 0)) : CleanTo f a K (k + 1) f' := by
  obtain ⟨h1, h2, h3⟩ := h
  have hok := h2.clean1 (a + k)
  have hdn := clean1_down fk (a + k) (by rw [e])
  rw [e] at hok hdn
  refine ⟨hdn.trans h1, hok.more (by push_cast; omega), ?_⟩
  rcases h3 with ⟨rfl, rfl⟩ | ⟨rfl, h3⟩ | ⟨rfl, _⟩
  · exact .inr (.inl ⟨rfl, e⟩)
  · refine .inr (.inr ⟨rfl, ?_⟩)
    unfold Fl.cleanS
    rw [h3, if_pos rfl]; exact e
  · omega
theorem CleanTo.stop {f fk f' : Fl} {a k : Nat} {K r : Int} (h : CleanTo f a K k fk) (hk : k < 2) (e : fk.clean1 (a + k) = (f', r)) (hr : r ≠ 0) : f.cleanS a = (f', r) := by
  rcases h.2.2 with ⟨rfl, rfl⟩ | ⟨rfl, h3⟩ | ⟨rfl, _⟩
  · unfold Fl.cleanS
    rw [show a + 0 = a from rfl] at e
    rw [e, if_neg hr]
  · unfold Fl.cleanS
    rw [h3, if_pos rfl]; exact e
  · omega
set_option maxRecDepth 100000 in
set_option maxHeartbeats 1600000 in
theorem clean_any (g s a : Nat) (f : Fl) (w : World) (K : Int) (hf : FlAt w g f) (hd : f.down = false) (hs : s = 0 ∨ s = 1) (ha : a = 2 + 2 * s) (hok : f.Ok K) (hK : K ≤ 1000000) :
    Calls Tryd.prog 33 #[.pointer (some ⟨g, 0, none⟩), .int .i64 (s : Int)] w (ProgOk g (f.cleanS a) w) := by
  have hs1 : s ≤ 1 := by omega
  have ha4 : a ≤ 4 := by omega
  have HFI := Lib.hid (fun W => sfirst_any s a W hs ha)
  have HF := Lib.hid hf
  have H0 : Hid (CleanTo f a K 0 f) := ⟨hd, hok.more (by omega), .inl ⟨rfl, rfl⟩⟩
  have HKK := Lib.hid hK
  clear hf hd hs ha hok hK
  go_enter Tryd.func33, Tryd.ntmps33
  go_wp2_with fail
  go_loopw [8] (fun i wr => ∃ (k : Nat) (fk : Fl), k ≤ 2 ∧ i = .int .i64 k ∧ Hid (Done g fk w wr) ∧ Hid (CleanTo f a K k fk)) (fun i _ => 2 - (intOf i).toNat)
  case atStart => exact ⟨0, f, by omega, rfl, done_refl HF.out, H0⟩
  case round =>
    clear HF H0
    obtain ⟨k, fk, hk, rfl, hdn, hcl⟩ := hrel
    by_cases hlt : k < 2
    · obtain ⟨q, hq⟩ : ∃ q, a + k = q := ⟨_, rfl⟩
      have hqi : (a : Int) + (k : Int) = (q : Int) := by omega
      have hq5 : q ≤ 5 := by omega
      have HBK := Lib.hid (blank_at (g := g) (a := 256 * q) (n := 256) ((q : Int) * 256) 256 (by push_cast; omega) rfl hdn.out.1 hcl.out.1 (by omega))
      have HQI := Lib.hid hqi
      have HQ := Lib.hid hq
      clear hqi hq
      go_wp2_with fail
      refine (HFI.out wr).mono ?_
      rintro e w' ⟨rfl, rfl⟩
      go_upto_region 5 with (rw [HQI.out])
      try rw [HQI.out]
      cases hb : allFF (fk.sub (256 * q) 256) with
      | true =>
        have he : Hid (fk.clean1 q = (fk, 0)) := by show _ = _; unfold Fl.clean1; rw [if_pos hb]
        rw [hb] at HBK
        clear hb
        go_wp2_with fail
        refine HBK.out.mono ?_
        rintro e w2 ⟨rfl, hb2⟩
        have HD2 := Lib.hid (done_below hdn.out hb2.out)
        have HC2 := Lib.hid (hcl.out.next hlt (by rw [HQ.out]; exact he.out))
        clear hdn hcl hb2 HBK he
        go_wp2_with fail
        go_roundw
        case rel => exact ⟨k + 1, fk, by omega, by go_num, HD2, HC2⟩
        case measure => simp [intOf]; omega
      | false =>
        have he : Hid (fk.clean1 q = fk.erase q) := by show _ = _; unfold Fl.clean1; rw [if_neg (by rw [hb]; decide)]
        rw [hb] at HBK
        clear hb
        go_wp2_with fail
        refine HBK.out.mono ?_
        rintro e w2 ⟨rfl, hb2⟩
        have HD2 := Lib.hid (done_below hdn.out hb2.out)
        have hok := hcl.out.2.1
        have HER := Lib.hid (erase_ok g q fk w2 HD2.out.1 hcl.out.1 (by omega) (hok.2.2.2.1 q) (by have := hok.2.2.2.2; omega) (by have := hok.1; omega) (by have := hok.2.1; have := HKK.out; omega) hok.2.2.1.2)
        obtain ⟨f1, r1, hE⟩ : ∃ f1 r1, fk.erase q = (f1, r1) := ⟨_, _, rfl⟩
        rw [hE] at HER he
        clear hb2 HBK hE hok hdn
        go_wp2_with fail
        refine HER.out.mono ?_
        rintro e w3 ⟨rfl, hd3⟩
        have HD3 : Hid (Done g f1 w w3) := HD2.out.trans hd3.out
        clear HD2 hd3 HER
        dsimp only
        by_cases h0 : r1 = 0
        · subst h0
          have HC2 := Lib.hid (hcl.out.next hlt (by rw [HQ.out]; exact he.out))
          clear hcl he
          go_wp2_with fail
          go_roundw
          case rel => exact ⟨k + 1, f1, by omega, by go_num, HD3, HC2⟩
          case measure => simp [intOf]; omega
        · have h0' : (r1 != 0) = true := by simpa using h0
          have HS := Lib.hid (hcl.out.stop hlt (by rw [HQ.out]; exact he.out) h0)
          clear hcl he h0
          go_wp2_with fail
          go_ret
          refine ⟨?_, ?_⟩
          · rw [HS.out]; rfl
          · rw [HS.out]; exact HD3
    · obtain rfl : k = 2 := by omega
      have HS : Hid (f.cleanS a = (fk, 0)) := by
        rcases hcl.out.2.2 with ⟨h, _⟩ | ⟨h, _⟩ | ⟨_, h⟩
        · omega
        · omega
        · exact h
      clear hcl
      go_wp2_with fail
      go_ret
      refine ⟨?_, ?_⟩
      · rw [HS.out]; rfl
      · rw [HS.out]; exact hdn
set_option maxRecDepth 100000 in
set_option maxHeartbeats 800000 in
theorem check_any (g s a B n cap : Nat) (A : Option Addr) (l : List UInt8) (f : Fl) (w : World) (hf : FlAt w g f) (hd : f.down = false) (hs : s = 0 ∨ s = 1) (ha : a = 2 + 2 * s) (hn : n ≤ 512) (hl : Row w B A n (bv l)) (hB : B ≤ w.heap.size) :
    Calls Tryd.prog 35 #[.pointer (some ⟨g, 0, none⟩), .int .i64 (s : Int), .slice A n cap] w fun e w' => e = .returned (.int .i64 (f.checkS (256 * a) l)) ∧ Hid (Below w.heap.size w w') := by
  have HR := Lib.hid (sread_any g s a n f w hf hd hs ha hn)
  have HL := Lib.hid hl
  have HBL := Lib.hid hl.blen
  have HCK : Hid (∀ L, L = f.sub (256 * a) n → f.checkS (256 * a) l = if L = l then 0 else 13) := by
    intro L hL
    subst hL
    unfold Fl.checkS; rw [HBL.out]
  clear hf hd hl
  obtain ⟨L, hL⟩ : ∃ L, L = f.sub (256 * a) n := ⟨_, rfl⟩
  have HC := Lib.hid (HCK.out L hL)
  rw [← hL] at HR
  clear HCK hL
  go_enter Tryd.func35, Tryd.ntmps35
  go_wp2_with fail
  refine HR.out.mono ?_
  rintro e w1 ⟨A1, n1, c1, rfl, hn1, hown, hb⟩
  have HE := Lib.hid (equal_any w1.heap.size n1 c1 n cap A1 A L l w1 (Row.of_own hown.out) ((HL.out.below (hb.out.mono hB)).more (Nat.le_trans hB hb.out.size)))
  by_cases h : L = l
  · have h2 : (L == l) = true := by simpa using h
    rw [h2] at HE
    rw [if_pos h] at HC
    clear h h2 hown hn1
    go_wp2_with fail
    refine HE.out.mono ?_
    rintro e w2 ⟨rfl, rfl⟩
    go_wp2_with fail
    go_ret
    exact ⟨by rw [HC.out]; rfl, hb⟩
  · have h2 : (L == l) = false := by simpa using h
    rw [h2] at HE
    rw [if_neg h] at HC
    clear h h2 hown hn1
    go_wp2_with fail
    refine HE.out.mono ?_
    rintro e w2 ⟨rfl, rfl⟩
    go_wp2_with fail
    go_ret
    exact ⟨by rw [HC.out]; rfl, hb⟩
set_option maxRecDepth 100000 in
set_option maxHeartbeats 1600000 in
theorem swrite_any (g s a B n cap : Nat) (A : Option Addr) (l : List UInt8) (f : Fl) (w : World) (K : Int) (hf : FlAt w g f) (hl : Row w B A n (bv l)) (hA : 0 < n → ∀ b o, A = some ⟨b, o, none⟩ → b ≠ g) (hB : B ≤ w.heap.size) (hd : f.down = false) (hs : s = 0 ∨ s = 1) (ha : a = 2 + 2 * s) (hn1 : 1 ≤ n) (hn : n ≤ 512) (hok : f.Ok K) (hK : K ≤ 1000000) :
    Calls Tryd.prog 13 #[.pointer (some ⟨g, 0, none⟩), .int .i64 (s : Int), .slice A n cap] w (ProgOk g (f.swrite a l) w) := by
  have hs1 : s ≤ 1 := by omega
  have ha4 : a ≤ 4 := by omega
  have HT := Lib.hid (there_yes s w hs)
  have HFT := Lib.hid (fits_yes n w hn1 hn)
  have HDN := Lib.hid (down_any g f false w hf hd)
  have HFI := Lib.hid (fun W => sfirst_any s a W hs ha)
  have HCL := Lib.hid (clean_any g s a f w K hf hd hs ha hok hK)
  have HL := Lib.hid hl
  have HBL := Lib.hid hl.blen
  have HA := Lib.hid hA
  have hsw : f.swrite a l = if (f.cleanS a).2 = 0 then
      if ((f.cleanS a).1.prog (256 * a) l).2 = 0 then (((f.cleanS a).1.prog (256 * a) l).1, ((f.cleanS a).1.prog (256 * a) l).1.checkS (256 * a) l) else (f.cleanS a).1.prog (256 * a) l
    else f.cleanS a := rfl
  have hokc := hok.cleanS a
  have hdc : (f.cleanS a).2 = 0 → (f.cleanS a).1.down = false := by
    intro h
    unfold Fl.cleanS at h ⊢
    split at h
    · rename_i h1
      rw [if_pos h1]
      exact ((clean1_down _ _ h).trans (clean1_down _ _ h1)).trans hd
    · rename_i h1; exact absurd h h1
  obtain ⟨f1, r1, hE⟩ : ∃ f1 r1, f.cleanS a = (f1, r1) := ⟨_, _, rfl⟩
  rw [hE] at HCL hsw hokc hdc
  dsimp only at hsw hokc hdc
  have HSW := Lib.hid hsw
  have HOK1 := Lib.hid hokc
  have HD1 := Lib.hid hdc
  have HSS := Lib.hid (And.intro hs ha)
  have HKK := Lib.hid hK
  clear hE hsw hokc hdc hf hl hA hd hs ha hok hK
  go_enter Tryd.func13, Tryd.ntmps13
  go_wp2_with fail
  refine HT.out.mono ?_
  rintro e w' ⟨rfl, rfl⟩
  go_wp2_with fail
  refine HFT.out.mono ?_
  rintro e w' ⟨rfl, rfl⟩
  go_wp2_with fail
  refine HDN.out.mono ?_
  rintro e w' ⟨rfl, rfl⟩
  go_wp2_with fail
  refine HCL.out.mono ?_
  rintro e w1 ⟨rfl, hd1⟩
  dsimp only
  clear HT HFT HDN HCL
  by_cases h0 : r1 = 0
  · subst h0
    have HR1 : Hid (Row w1 w.heap.size A n (bv l)) := ((HL.out.more hB).apart HA.out hd1.out.2 (Nat.le_refl _))
    have HP := Lib.hid (prog_at (g := g) (a := 256 * a) (n := n) (cap := cap) (A := A) (l := l) (f := f1) (w := w1) ((a : Int) * 256) (by push_cast; omega) hd1.out.1 HR1.out HA.out hd1.out.2.size (HD1.out rfl) (by omega) (by have := HOK1.out.1; omega) (by have := HOK1.out.2.1; have := HKK.out; omega) HOK1.out.2.2.1)
    have hdp := fun h => (prog_down_same f1 (256 * a) l h).trans (HD1.out rfl)
    obtain ⟨f2, r2, hE⟩ : ∃ f2 r2, f1.prog (256 * a) l = (f2, r2) := ⟨_, _, rfl⟩
    have hsw2 := HSW.out
    rw [if_pos rfl, hE] at hsw2
    rw [hE] at HP hdp
    dsimp only at hsw2 hdp
    have HSW2 := Lib.hid hsw2
    have HDP := Lib.hid hdp
    clear hE hsw2 hdp HSW HOK1 HD1
    go_wp2_with fail
    refine (HFI.out w1).mono ?_
    rintro e w' ⟨rfl, rfl⟩
    go_wp2_with fail
    refine HP.out.mono ?_
    rintro e w2 ⟨rfl, hd2⟩
    dsimp only
    have HD2 : Hid (Done g f2 w w2) := hd1.out.trans hd2.out
    have HR2 : Hid (Row w2 w.heap.size A n (bv l)) := HR1.out.apart HA.out hd2.out.2 hd1.out.2.size
    clear hd1 hd2 HP HR1
    by_cases h2 : r2 = 0
    · subst h2
      have HCK := Lib.hid (check_any g s a w.heap.size n cap A l f2 w2 HD2.out.1 (HDP.out rfl) HSS.out.1 HSS.out.2 hn HR2.out HD2.out.2.size)
      go_wp2_with fail
      refine HCK.out.mono ?_
      rintro e w3 ⟨rfl, hb3⟩
      go_wp2_with fail
      go_ret
      refine ⟨?_, ?_⟩
      · rw [HSW2.out, if_pos trivial]; rfl
      · rw [HSW2.out, if_pos trivial]; exact done_below HD2.out hb3.out
    · have h2' : (r2 != 0) = true := by simpa using h2
      have HQ : Hid (f.swrite a l = (f2, r2)) := by show _ = _; rw [HSW2.out, if_neg h2]
      clear h2
      go_wp2_with fail
      go_ret
      refine ⟨?_, ?_⟩
      · rw [HQ.out]; rfl
      · rw [HQ.out]; exact HD2
  · have h0' : (r1 != 0) = true := by simpa using h0
    have HQ : Hid (f.swrite a l = (f1, r1)) := by show _ = _; rw [HSW.out, if_neg h0]
    clear h0
    go_wp2_with fail
    go_ret
    refine ⟨?_, ?_⟩
    · rw [HQ.out]; rfl
    · rw [HQ.out]; exact hd1
end Go.Proofs.YtgfdpondnkcogaaDoor
