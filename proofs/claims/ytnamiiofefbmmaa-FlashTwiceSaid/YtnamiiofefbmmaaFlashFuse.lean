/- FlashFuse: just so many steps are done whole; the next one is torn, and nothing behind it is done. For every input, no condition. -/
import Derived.Test.YtnamiiofefbmmaaFlAwake
import Derived.Test.YtnamiiofefbmmaaLaw
namespace Go.Proofs.Ytnamiiofefbmmaa
open Go.ChangeShapes Go.WideShapes Go.ChangeAt Go.RowKit
def bsAll (bs : Nat → UInt8) (a : Nat) (l : List UInt8) : Nat → UInt8 := fun i => if a ≤ i ∧ i < a + l.length then bs i &&& l.getD (i - a) 0 else bs i
def bsTorn (bs : Nat → UInt8) (a n : Nat) (l : List UInt8) (tb : UInt8) : Nat → UInt8 := fun i => if a ≤ i ∧ i < a + n then bs i &&& l.getD (i - a) 0 else if i = a + n then bs i &&& (l.getD n 0 ||| tb) else bs i
theorem bsAll_nil (bs : Nat → UInt8) (a : Nat) : bsAll bs a [] = bs := by
  funext i
  have h : ¬ (a ≤ i ∧ i < a + ([] : List UInt8).length) := by simp only [List.length_nil]; omega
  unfold bsAll; rw [if_neg h]
theorem bsAll_cons (bs : Nat → UInt8) (a : Nat) (x : UInt8) (t : List UInt8) : bsAll (fun i => if i = a then bs a &&& x else bs i) (a + 1) t = bsAll bs a (x :: t) := by
  funext i
  unfold bsAll
  simp only [List.length_cons]
  by_cases h1 : a + 1 ≤ i ∧ i < a + 1 + t.length
  · have e1 : ¬ i = a := by omega
    have e2 : a ≤ i ∧ i < a + (t.length + 1) := by omega
    rw [if_pos h1, if_neg e1, if_pos e2]
    obtain ⟨j, rfl⟩ : ∃ j, i = a + 1 + j := ⟨i - (a + 1), by omega⟩
    rw [show a + 1 + j - (a + 1) = j by omega, show a + 1 + j - a = j + 1 by omega]; rfl
  · rw [if_neg h1]
    by_cases h2 : i = a
    · subst h2
      have e2 : i ≤ i ∧ i < i + (t.length + 1) := by omega
      rw [if_pos rfl, if_pos e2]
      simp
    · have e2 : ¬ (a ≤ i ∧ i < a + (t.length + 1)) := by omega
      rw [if_neg h2, if_neg e2]
theorem bsTorn_zero (bs : Nat → UInt8) (a : Nat) (x tb : UInt8) (t : List UInt8) : (fun i => if i = a then bs a &&& (x ||| tb) else bs i) = bsTorn bs a 0 (x :: t) tb := by
  funext i
  unfold bsTorn
  have e2 : ¬ (a ≤ i ∧ i < a + 0) := by omega
  rw [if_neg e2]
  by_cases h : i = a
  · subst h; rw [if_pos rfl, if_pos (by omega)]; rfl
  · rw [if_neg h, if_neg (by omega)]
theorem bsTorn_cons (bs : Nat → UInt8) (a n : Nat) (x tb : UInt8) (t : List UInt8) : bsTorn (fun i => if i = a then bs a &&& x else bs i) (a + 1) n t tb = bsTorn bs a (n + 1) (x :: t) tb := by
  funext i
  unfold bsTorn
  dsimp only
  by_cases h1 : a + 1 ≤ i ∧ i < a + 1 + n
  · have e1 : ¬ i = a := by omega
    have e2 : a ≤ i ∧ i < a + (n + 1) := by omega
    rw [if_pos h1, if_neg e1, if_pos e2]
    obtain ⟨j, rfl⟩ : ∃ j, i = a + 1 + j := ⟨i - (a + 1), by omega⟩
    rw [show a + 1 + j - (a + 1) = j by omega, show a + 1 + j - a = j + 1 by omega]; rfl
  · rw [if_neg h1]
    by_cases h2 : i = a
    · subst h2
      have e2 : i ≤ i ∧ i < i + (n + 1) := by omega
      rw [if_neg (by omega), if_pos rfl, if_pos e2]
      simp
    · have e2 : ¬ (a ≤ i ∧ i < a + (n + 1)) := by omega
      rw [if_neg e2]
      by_cases h3 : i = a + 1 + n
      · subst h3
        rw [if_pos rfl, if_neg h2, if_pos (by omega)]; rfl
      · rw [if_neg h3, if_neg h2, if_neg (by omega)]
theorem fuse_whole (l : List UInt8) : ∀ (f : Fl) (a n : Nat), f.there = true → f.left = n → l.length ≤ n → ∃ f', f.prog a l = (f', 0) ∧ f'.bs = bsAll f.bs a l ∧ f'.steps = f.steps + l.length ∧ f'.down = f.down := by
  induction l with
  | nil => intro f a n _ _ _; exact ⟨f, rfl, (bsAll_nil _ _).symm, by simp, rfl⟩
  | cons x t ih =>
    intro f a n h hl hn
    simp only [List.length_cons] at hn
    have hs : f.stepB = true := by unfold Fl.stepB; rw [h, hl, if_pos rfl, decide_eq_true_eq]; omega
    have hf : f.stepF = { f.tick with left := f.left - 1 } := by unfold Fl.stepF; rw [if_pos h, if_pos (by omega)]
    obtain ⟨f', e, h1, h2, h3⟩ := ih (f.stepF.put a x) (a + 1) (n - 1) (by rw [hf]; exact h) (by rw [hf]; show f.left - 1 = _; omega) (by omega)
    refine ⟨f', ?_, ?_, ?_, ?_⟩
    · show (if f.stepB then _ else _) = _
      rw [if_pos hs]; exact e
    · rw [h1, ← bsAll_cons, hf]; rfl
    · rw [h2, hf]; show f.steps + 1 + _ = _; simp only [List.length_cons]; push_cast; omega
    · rw [h3, hf]; rfl
theorem fuse_torn (l : List UInt8) : ∀ (f : Fl) (a n : Nat), f.there = true → f.left = n → n < l.length → ∃ f', f.prog a l = (f', 11) ∧ f'.bs = bsTorn f.bs a n l (UInt8.ofNat (f.torn % 256).toNat) ∧ f'.steps = f.steps + n + 1 ∧ f'.there = false ∧ f'.left = 0 := by
  induction l with
  | nil => intro f a n _ _ h; simp at h
  | cons x t ih =>
    intro f a n h hl hn
    cases n with
    | zero =>
      have hs : f.stepB = false := by unfold Fl.stepB; rw [h, hl]; rfl
      have hf : f.stepF = { f.tick with there := false, down := true } := by unfold Fl.stepF; rw [if_pos h, if_neg (by omega)]
      refine ⟨f.stepF.put a (x ||| UInt8.ofNat (f.torn % 256).toNat), ?_, ?_, ?_, ?_, ?_⟩
      · show (if f.stepB then _ else _) = _
        rw [if_neg (by rw [hs]; decide)]
      · rw [← bsTorn_zero, hf]; rfl
      · rw [hf]; show f.steps + 1 = f.steps + ((0 : Nat) : Int) + 1; omega
      · rw [hf]; rfl
      · rw [hf]; exact hl
    | succ m =>
      simp only [List.length_cons] at hn
      have hs : f.stepB = true := by unfold Fl.stepB; rw [h, hl, if_pos rfl, decide_eq_true_eq]; omega
      have hf : f.stepF = { f.tick with left := f.left - 1 } := by unfold Fl.stepF; rw [if_pos h, if_pos (by omega)]
      obtain ⟨f', e, h1, h2, h3, h4⟩ := ih (f.stepF.put a x) (a + 1) m (by rw [hf]; exact h) (by rw [hf]; show f.left - 1 = _; omega) (by omega)
      refine ⟨f', ?_, ?_, ?_, h3, h4⟩
      · show (if f.stepB then _ else _) = _
        rw [if_pos hs]; exact e
      · rw [h1, ← bsTorn_cons, hf]; rfl
      · rw [h2, hf]; show f.steps + 1 + _ + 1 = _; push_cast; omega
theorem u8_ff (x : UInt8) : (255 : UInt8) &&& x = x := by
  apply UInt8.toNat.inj
  rw [UInt8.toNat_and]
  have h := CrcM.b_lt x
  show 255 &&& x.toNat = x.toNat
  rw [Nat.and_comm, show (255 : Nat) = 2 ^ 8 - 1 from rfl, Nat.and_two_pow_sub_one_eq_mod]
  omega
theorem sub_all {f : Fl} {bs : Nat → UInt8} {a : Nat} {l : List UInt8} (hb : ∀ i, i < 3584 → bs i = 255) (h : f.bs = bsAll bs a l) (ha : a + l.length ≤ 3584) : f.sub a l.length = l := by
  apply List.ext_getElem
  · rw [Fl.sub_length]
  · intro i h1 h2
    simp only [Fl.sub, List.getElem_map, List.getElem_range]
    rw [h]
    unfold bsAll
    rw [if_pos (by omega), hb _ (by omega), u8_ff, Nat.add_sub_cancel_left]
    simp [List.getD, h2]
theorem sub_torn {f : Fl} {bs : Nat → UInt8} {a n : Nat} {tb : UInt8} {l : List UInt8} (hb : ∀ i, i < 3584 → bs i = 255) (h : f.bs = bsTorn bs a n l tb) (ha : a + l.length ≤ 3584) (i : Nat) (hi : i < l.length) :
    f.bs (a + i) = if i < n then l[i] else if i = n then l[i] ||| tb else 255 := by
  rw [h]
  unfold bsTorn
  by_cases h1 : i < n
  · rw [if_pos (by omega), if_pos h1, hb _ (by omega), u8_ff, Nat.add_sub_cancel_left]
    simp [List.getD, hi]
  · rw [if_neg (by omega), if_neg h1]
    by_cases h2 : i = n
    · subst h2
      rw [if_pos rfl, if_pos rfl, hb _ (by omega), u8_ff]
      simp [List.getD, hi]
    · rw [if_neg (by omega), if_neg h2, hb _ (by omega)]
set_option maxRecDepth 100000 in
set_option maxHeartbeats 3200000 in
theorem fuse_walk (x : Int) (_ : -9223372036854775808 ≤ x) (_ : x ≤ 9223372036854775807) (t : Int) (_ : -9223372036854775808 ≤ t) (_ : t ≤ 9223372036854775807) (A : Option Addr) (n cap : Nat) (l : List UInt8) (w : World) (hl : Row w w.heap.size A n (bv l)) :
    Calls Try.prog 6 #[.int .i64 x, .int .i64 t, .slice A n cap] w fun e w' => e = .returned (.bool true) ∧ Below w.heap.size w w' := by
  rename_i q1 q2 q3 q4
  clear q1 q2 q3 q4
  by_cases hb1 : n < 1
  · go_enter Try.func6, Try.ntmps6
    go_wp2_with fail
    refine (awake16_any _).mono ?_
    rintro e w4 ⟨rfl, hb4⟩
    go_wp2_with fail
    go_ret
    exact ⟨rfl, hb4⟩
  by_cases hb2 : 200 < n
  · go_enter Try.func6, Try.ntmps6
    go_wp2_with fail
    refine (awake16_any _).mono ?_
    rintro e w4 ⟨rfl, hb4⟩
    go_wp2_with fail
    go_ret
    exact ⟨rfl, hb4⟩
  obtain ⟨k, hk, hK⟩ := pick_in x 250 (by omega) (by omega)
  have HK := Lib.hid hK
  clear hK
  have hn1 : 1 ≤ n := by omega
  have hn2 : n ≤ 200 := by omega
  have HBL := Lib.hid hl.blen
  have HL := Lib.hid hl
  clear hl
  go_enter Try.func6, Try.ntmps6
  go_wp2_with (rw [HK.out])
  refine (new_any 5 w ⟨by omega, by omega⟩).mono ?_
  rintro e w1 ⟨g, rfl, hg, hf, hb⟩
  have hff : ∀ i, i < 3584 → ((flNew 5).fill 0 3584).bs i = 255 := fun i hi => by show (if 0 ≤ i ∧ i < 0 + 3584 then (255 : UInt8) else 0) = 255; rw [if_pos (by omega)]
  obtain ⟨f0, hf0⟩ : ∃ f0, (flNew 5).fill 0 3584 = f0 := ⟨_, rfl⟩
  have h00 : f0.down = false ∧ f0.steps = 0 := by rw [← hf0]; exact ⟨rfl, rfl⟩
  rw [hf0] at hf hff
  have HFF := Lib.hid hff
  have H00 := Lib.hid h00
  clear hf0 h00 hff
  go_wp2_with fail
  refine (fuse_any g k t f0 w1 hf.out).mono ?_
  rintro e w2 ⟨rfl, hd⟩
  obtain ⟨f1, hf1⟩ : ∃ f1 : Fl, { f0 with there := decide (0 ≤ (k : Int)), left := (k : Int), torn := t } = f1 := ⟨_, rfl⟩
  have h1 : f1.down = false ∧ f1.steps = 0 ∧ f1.there = true ∧ f1.left = (k : Int) ∧ f1.torn = t ∧ f1.bs = f0.bs := by
    rw [← hf1]; exact ⟨H00.out.1, H00.out.2, by simp, rfl, rfl, rfl⟩
  rw [hf1] at hd
  have H1 := Lib.hid h1
  have HF2 := Lib.hid hd.out.1
  have HB2 := Lib.hid (hb.out.grown hd.out.2 hb.out.size (by intro k h; injection h with h; omega))
  have HAG : Hid (∀ b o, A = some ⟨b, o, none⟩ → b ≠ g) := by
    intro b o e
    obtain ⟨b', o', e', hb', _⟩ := HL.out.2 (by omega)
    rw [e'] at e
    injection e with e
    injection e with e1
    omega
  have HL2 := Lib.hid (HL.out.below HB2.out)
  have hc1 : ((300 : Int) + n) ≤ 3584 := by omega
  clear hd hf hb h1 hf1
  go_wp2_with fail
  refine (prog_at (a := 300) (n := n) (l := l) (B := w.heap.size) 300 rfl HF2.out HL2.out (fun _ => HAG.out) HB2.out.size H1.out.1 (by omega) (by rw [H1.out.2.1]; omega) (by rw [H1.out.2.1]; omega) (by rw [H1.out.2.2.2.1]; omega)).mono ?_
  rintro e w3 ⟨rfl, hd⟩
  have HB3 := Lib.hid (HB2.out.grown hd.out.2 HB2.out.size (by intro k h; injection h with h; omega))
  by_cases hnk : n ≤ k
  · obtain ⟨f3, hE, hbs, hst, hdn⟩ := fuse_whole l f1 300 k H1.out.2.2.1 H1.out.2.2.2.1 (by rw [HBL.out]; exact hnk)
    rw [hE] at hd ⊢
    have hsub := sub_all (a := 300) (fun i hi => by rw [H1.out.2.2.2.2.2]; exact HFF.out i hi) hbs (by rw [HBL.out]; omega)
    rw [HBL.out] at hsub hst
    rw [H1.out.2.1, Int.zero_add] at hst
    rw [H1.out.1] at hdn
    have HF3 := Lib.hid hd.out.1
    have HSUB := Lib.hid hsub
    have HST := Lib.hid hst
    have HDN := Lib.hid hdn
    clear hd hE hbs hst hdn hsub
    go_wp2_with fail
    refine (bytes_any g f3 w3 HF3.out).mono ?_
    rintro e w4 ⟨A4, n4, c4, rfl, hn4, hown, hb4⟩
    obtain rfl : n4 = 3584 := hn4.out.trans (Fl.sub_length _ _ _)
    have HB4 := Lib.hid (HB3.out.trans (hb4.mono HB3.out.size))
    have HF4 := Lib.hid (HF3.out.below hb4)
    have hc4 := own_cap hown
    obtain ⟨G, cG, hv, _, _⟩ := hown.form (by omega)
    injection hv with e1 e2 e3
    subst e1 e3
    have hrow : Row w4 w4.heap.size (some ⟨G, 300, none⟩) n (bv l) := by
      have h1 := (Row.of_own hown).sub (k := 300) (m := n) (A' := some ⟨G, 300, none⟩) (by omega) (fun b o e _ => by injection e with e; injection e with e1 e2; subst e1 e2; rfl)
      rw [bv_drop, bv_take] at h1
      have e5 : ((f3.sub 0 3584).drop 300).take n = l := by
        rw [← HSUB.out]
        apply List.ext_getElem
        · simp [Fl.sub]; omega
        · intro i h1 h2; simp [Fl.sub]
      rwa [e5] at h1
    have hcc : ¬ c4 = 300 := by omega
    have hcI : (300 : Int) + n ≤ c4 := by omega
    have hk1 := run_string_row (P := Try.prog) hrow (c4 - 300) 29 9 5 Try.underlying29 Try.underlying5 Try.underlying9
    have hk2 := run_string_row (P := Try.prog) (HL.out.below HB4.out) cap 29 9 5 Try.underlying29 Try.underlying5 Try.underlying9
    have HD := Lib.hid (down_any g f3 false w4 HF4.out HDN.out)
    have HS := Lib.hid (steps_any g f3 w4 HF4.out)
    rw [HST.out] at HS
    clear hown hn4 hb4 hrow hc4
    go_wp2_with (first
      | (go_at_call 28; refine HD.out.mono ?_; rintro e w' ⟨rfl, rfl⟩)
      | (go_at_call 29; refine HS.out.mono ?_; rintro e w' ⟨rfl, rfl⟩))
    refine (awake16_any _).mono ?_
    rintro e w5 ⟨rfl, hb5⟩
    go_wp2_with fail
    go_ret
    exact ⟨rfl, HB4.out.trans (hb5.mono HB4.out.size)⟩
  · obtain ⟨f3, hE, hbs, hst, hth, hlf⟩ := fuse_torn l f1 300 k H1.out.2.2.1 H1.out.2.2.2.1 (by rw [HBL.out]; omega)
    rw [hE] at hd ⊢
    have hx := sub_torn (a := 300) (fun i hi => by rw [H1.out.2.2.2.2.2]; exact HFF.out i hi) hbs (by rw [HBL.out]; omega)
    rw [H1.out.2.2.2.2.1] at hx
    rw [H1.out.2.1, Int.zero_add] at hst
    have HF3 := Lib.hid hd.out.1
    have HX := Lib.hid hx
    have HST := Lib.hid hst
    have HTH := Lib.hid hth
    have HLF := Lib.hid hlf
    clear hd hE hbs hst hth hlf hx
    go_wp2_with fail
    refine (bytes_any g f3 w3 HF3.out).mono ?_
    rintro e w4 ⟨A4, n4, c4, rfl, hn4, hown, hb4⟩
    obtain rfl : n4 = 3584 := hn4.out.trans (Fl.sub_length _ _ _)
    have HB4 := Lib.hid (HB3.out.trans (hb4.mono HB3.out.size))
    have HF4 := Lib.hid (HF3.out.below hb4)
    have hc4 := own_cap hown
    obtain ⟨G, cG, hv, _, _⟩ := hown.form (by omega)
    injection hv with e1 e2 e3
    subst e1 e3
    have hrow : Row w4 w4.heap.size (some ⟨G, 300, none⟩) n (bv (f3.sub 300 n)) := by
      have h1 := (Row.of_own hown).sub (k := 300) (m := n) (A' := some ⟨G, 300, none⟩) (by omega) (fun b o e _ => by injection e with e; injection e with e1 e2; subst e1 e2; rfl)
      rw [bv_drop, bv_take] at h1
      have e5 : ((f3.sub 0 3584).drop 300).take n = f3.sub 300 n := by
        apply List.ext_getElem
        · simp [Fl.sub]; omega
        · intro i h1 h2; simp [Fl.sub]
      rwa [e5] at h1
    have hcc : ¬ c4 = 300 := by omega
    have hcI : (300 : Int) + n ≤ c4 := by omega
    have HRW := Lib.hid hrow
    have HL4 := Lib.hid (HL.out.below HB4.out)
    clear hown hn4 hb4 hrow hc4
    go_wp2_with fail
    go_loop [74] (fun i => ∃ j : Nat, j ≤ n ∧ i = .int .i64 j) (fun i => n - (intOf i).toNat)
    case atStart => exact ⟨0, by omega, rfl⟩
    case round =>
      obtain ⟨j, hj, rfl⟩ := hrel
      by_cases hlt : j < n
      · obtain ⟨b1, o1, e1, _, hkl, hcell⟩ := HRW.out.byteAt hlt
        injection e1 with e1
        injection e1 with e1 e2
        subst e1 e2
        obtain ⟨b2, o2, rfl, _, hkl2, hcell2⟩ := HL4.out.byteAt hlt
        have hval : (f3.sub 300 n)[j] = if j < k then l[j] else if j = k then l[j] ||| UInt8.ofNat (t % 256).toNat else 255 := by
          rw [← HX.out j hkl2]
          simp [Fl.sub]
        generalize (f3.sub 300 n)[j] = xj at *
        generalize l[j] = lj at *
        by_cases hjk : j < k
        · rw [if_pos hjk] at hval
          subst hval
          have hne : ¬ (j : Int) = k := by omega
          go_wp2_with fail
          go_round
          case rel => exact ⟨j + 1, by omega, by go_num⟩
          case measure => simp [intOf]; omega
        · rw [if_neg hjk] at hval
          by_cases hjk2 : j = k
          · subst hjk2
            rw [if_pos rfl] at hval
            have hq : ((xj.toNat : Int) != bits .or .u8 (lj.toNat : Int) (t % 256)) = false := by
              have e : t % 256 = ((UInt8.ofNat (t % 256).toNat).toNat : Int) := by rw [UInt8.toNat_ofNat']; omega
              rw [hval]
              generalize UInt8.ofNat (t % 256).toNat = y at *
              rw [e, u8_or_nat _ _ (CrcM.b_lt _) (CrcM.b_lt _), ← UInt8.toNat_or]
              simp
            clear hval
            go_wp2_with fail
            go_round
            case rel => exact ⟨j + 1, by omega, by go_num⟩
            case measure => simp [intOf]; omega
          · rw [if_neg hjk2] at hval
            have hq : ((xj.toNat : Int) != 255) = false := by rw [hval]; rfl
            have hne : ¬ (j : Int) = k := by omega
            clear hval
            go_wp2_with fail
            go_round
            case rel => exact ⟨j + 1, by omega, by go_num⟩
            case measure => simp [intOf]; omega
      · clear HRW
        have HST4 := Lib.hid (start_any g f3 w4 HF4.out)
        obtain ⟨f5, hf5⟩ : ∃ f5 : Fl, { f3 with down := false } = f5 := ⟨_, rfl⟩
        rw [hf5] at HST4
        have h5 : f5.down = false ∧ f5.there = false ∧ f5.left = 0 ∧ f5.steps = (k : Int) + 1 := by rw [← hf5]; exact ⟨rfl, HTH.out, HLF.out, HST.out⟩
        have H5 := Lib.hid h5
        clear h5 hf5
        go_wp2_with fail
        refine HST4.out.mono ?_
        rintro e w5 ⟨rfl, hd5⟩
        have HF5 := Lib.hid hd5.out.1
        have HB5 := Lib.hid (HB4.out.grown hd5.out.2 HB4.out.size (by intro k h; injection h with h; omega))
        have HS5 := Lib.hid (steps_any g f5 w5 HF5.out)
        rw [H5.out.2.2.2] at HS5
        have HL5 := Lib.hid (HL.out.below HB5.out)
        have hpg := prog_at (g := g) (f := f5) (a := 0) (n := n) (cap := cap) (l := l) (B := w.heap.size) 0 rfl HF5.out HL5.out (fun _ => HAG.out) HB5.out.size H5.out.1 (by omega) (by rw [H5.out.2.2.2]; omega) (by rw [H5.out.2.2.2]; omega) (by rw [H5.out.2.2.1]; omega)
        rw [Fl.prog_free l f5 0 H5.out.2.1] at hpg
        have HPG := Lib.hid hpg
        clear hd5 HST4 hpg
        go_wp2_with fail
        refine HS5.out.mono ?_
        rintro e w' ⟨rfl, rfl⟩
        go_wp2_with fail
        refine HPG.out.mono ?_
        rintro e w6 ⟨rfl, hd6⟩
        have HB6 := Lib.hid (HB5.out.grown hd6.out.2 HB5.out.size (by intro k h; injection h with h; omega))
        clear hd6
        go_wp2_with fail
        refine (awake16_any _).mono ?_
        rintro e w7 ⟨rfl, hb7⟩
        go_wp2_with fail
        go_ret
        exact ⟨rfl, HB6.out.trans (hb7.mono HB6.out.size)⟩

set_option maxRecDepth 100000 in
theorem flashFuse_lifted (os : Os) (started : os.Started) (H : Type) (enc : TypeId × Value → H) :
    ReturnsInHanded {} Try.checked os 6 .any (Rows.flashFuseSpec.pre6 enc Try.prog Try.f6 Rows.flashFuseRow.domain false) (Rows.flashFuseSpec.post enc Try.prog Try.f6 false true false false) := by
  refine law_lift (C := Try.checked) (tb := 4) Try.own started (by kernel_rfl) Try.func6
    (ChangeSpec.witness6 (enc := enc) (C := Try.checked) false ⟨#[], #[.int .i64 0, .int .i64 0, .slice none 0 0], []⟩ 8 (by kernel_rfl) (by kernel_rfl) (by kernel_rfl) (by kernel_rfl)) Try.laidOut (by kernel_rfl) rfl rfl Try.underlying4 ?_ ?_
  · intro ds hds
    match ds, hds with
    | [_, _, _], _ => rfl
  intro W base args ds p hval0 hA0 _ _ hsz0
  have hval : ∀ (j : Nat) t v, Try.f6.params[j]? = some t → args[j]? = some v → Value.okWide Try.prog W .any base t v := hval0
  have hA : DataW.TrodAll enc Try.prog W 0 (fun _ => true) true Try.f6.params.toList args.toList ds p := hA0
  rw [Try.params6] at hA hval
  obtain ⟨v0, v1, v2, d0, d1, d2, p0, p1, p2, rfl, rfl, rfl, h0, h1, h2⟩ := trodAll_three hA
  obtain ⟨x0, rfl, hx0, hy0⟩ := open_i64 Try.underlying3 (hval 0 3 v0 rfl rfl) h0
  obtain ⟨x1, rfl, hx1, hy1⟩ := open_i64 Try.underlying3 (hval 1 3 v1 rfl rfl) h1
  obtain ⟨A2, n2, cap2, l2, rfl, hrow2, hnc2, hcm2⟩ := open_bytes Try.underlying29 Try.underlying5 Try.cells5 (hval 2 29 v2 rfl rfl) h2
  exact fuse_walk x0 hx0 hy0 x1 hx1 hy1 A2 n2 cap2 l2 W hrow2

theorem flashFuse_holds : Rows.FlashFuseSaid :=
  OpenClaim.holds_of_wide 6 Try.f6 rfl rfl rfl rfl rfl rfl rfl ⟨rfl, rfl, rfl, rfl, rfl⟩ rfl rfl rfl rfl rfl (by kernel_rfl) Try.func6 (by kernel_rfl)
    (of_decide_eq_true (by kernel_rfl)) (by unfold Func.isWrapper; rw [if_neg (of_decide_eq_false (by kernel_rfl))]; exact ⟨rfl, rfl⟩)
    (fun os started H enc _ => flashFuse_lifted os started H enc)
end Go.Proofs.Ytnamiiofefbmmaa
