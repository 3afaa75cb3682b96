/- SlotSteps: its walks. -/
import Derived.Test.YtgfdpondnkcogaaDoorSlAw
namespace Go.Proofs.YtgfdpondnkcogaaDoor
open Go.RowKit Go.ChangeShapes Go.WideShapes Go.ChangeAt Sh
theorem new_nonB (x : Int) (s : Nat) (h : s < 14) : nonB ((flNew x).fill 0 3584) s = 0 := by
  unfold nonB
  rw [if_pos]
  exact ff_sub fun i hi => new_ff x _ (by omega)
/-- which of the two sectors from a on are not blank, by what was written -/
structure NonF (f : Fl) (a : Nat) (l : List UInt8) : Prop where
  yes : ∀ i, i < 2 → (∀ j (hj : j < l.length), j / 256 = i → l[j] = 255) → nonB f (a + i) = 0
  no : ∀ i, i < 2 → ∀ j (hj : j < l.length), j / 256 = i → ¬ l[j] = 255 → nonB f (a + i) = 1
theorem nonF_of {f : Fl} {a : Nat} {l : List UInt8} (h1 : f.sub (256 * a) l.length = l) (h2 : ∀ i, l.length ≤ i → i < 512 → f.bs (256 * a + i) = 255) (_ : l.length ≤ 512) : NonF f a l := by
  have hb : ∀ j (hj : j < l.length), f.bs (256 * a + j) = l[j] := by
    intro j hj
    have : (f.sub (256 * a) l.length)[j]'(by rw [Fl.sub_length]; exact hj) = l[j] := by simp only [h1]
    rw [← this]
    simp [Fl.sub]
  refine ⟨fun i hi hall => ?_, fun i hi j hj hji hx => ?_⟩
  · unfold nonB
    rw [if_pos]
    refine ff_sub fun k hk => ?_
    rw [show 256 * (a + i) + k = 256 * a + (256 * i + k) by omega]
    by_cases h : 256 * i + k < l.length
    · rw [hb _ h]; exact hall _ h (by omega)
    · exact h2 _ (by omega) (by omega)
  · unfold nonB
    rw [if_neg]
    intro h
    have := sub_ff h (j - 256 * i) (by omega)
    rw [show 256 * (a + i) + (j - 256 * i) = 256 * a + j by omega, hb j hj] at this
    exact hx this
def moAt (M0 M1 : Int) : Nat → Int | 0 => 0 | 1 => M0 | _ => M0 + M1
set_option maxRecDepth 100000 in
set_option maxHeartbeats 12800000 in
theorem steps_walk0 (x : Int) (hx : wrap64 ((IntKind.u64.wrap x).tmod 2) = 0) (FA : Option Addr) (nf fcap : Nat) (fst : List UInt8) (IA : Option Addr) (ni icap : Nat) (img : List UInt8) (w : World) (ht : Tab w) (hl : Row w w.heap.size FA nf (bv fst)) (hl2 : Row w w.heap.size IA ni (bv img))
    (hf2 : nf ≤ 512) (hi1 : 1 ≤ ni) (hi2 : ni ≤ 512) :
    Calls Tryd.prog 5 #[.int .i64 x, .slice FA nf fcap, .slice IA ni icap] w fun e w' => e = .returned (.bool true) ∧ Below w.heap.size w w' := by
  have HT := Lib.hid ht
  have HF := Lib.hid hl
  have HI := Lib.hid hl2
  have HFL := Lib.hid hl.blen
  have HIL := Lib.hid hl2.blen
  have HK := Lib.hid hx
  have hi1' : ¬ ((ni : Int) < 1) := by omega
  clear ht hl hl2 hx
  go_enter Tryd.func5, Tryd.ntmps5
  go_wp2_with (rw [HK.out])
  refine (new_any 10 w ⟨by omega, by omega⟩).mono ?_
  rintro e w1 ⟨g, rfl, hg, hf, hb⟩
  have HQ0 : Hid (((flNew 10).fill 0 3584).down = false ∧ ((flNew 10).fill 0 3584).there = false ∧ ((flNew 10).fill 0 3584).wear = 10 ∧ (∀ j, ((flNew 10).fill 0 3584).er j = 0) ∧ ((flNew 10).fill 0 3584).Ok 0 ∧ ((flNew 10).fill 0 3584).steps = 0 ∧ nonB ((flNew 10).fill 0 3584) 2 = 0 ∧ nonB ((flNew 10).fill 0 3584) (2 + 1) = 0) :=
    ⟨rfl, rfl, rfl, fun s => rfl, new_ok2 10 (by decide), rfl, new_nonB 10 _ (by omega), new_nonB 10 _ (by omega)⟩
  generalize (flNew 10).fill 0 3584 = f0 at *
  have HB1 : Hid (Below w.heap.size w w1) := hb
  have HF1 : Hid (FlAt w1 g f0) := hf
  have HA : ∀ (A : Option Addr) (n : Nat) (l : List UInt8), Row w w.heap.size A n (bv l) → 0 < n → ∀ b o, A = some ⟨b, o, none⟩ → b ≠ g := by
    intro A n l hr h0 b' o' e
    obtain ⟨b2, o2, e2, hb2, _⟩ := hr.2 h0
    have e3 := e2.symm.trans e
    injection e3 with e3
    injection e3 with e3
    omega
  have HAF := Lib.hid (HA _ _ _ HF.out)
  have HAI := Lib.hid (HA _ _ _ HI.out)
  clear hb hf HA
  by_cases hn0 : nf = 0
  · subst hn0
    have HW := Lib.hid (swrite_free (s := 0) (a := 2) (cap := icap) HF1.out (HI.out.below HB1.out) HAI.out HB1.out.size HQ0.out.1 (.inl rfl) rfl hi1 hi2 HQ0.out.2.2.2.2.1 (by omega) (by rw [HQ0.out.2.2.1, HQ0.out.2.2.2.1]; decide) (by rw [HQ0.out.2.2.1, HQ0.out.2.2.2.1]; decide) HQ0.out.2.1)
    clear HF HAF
    go_wp2_with fail
    refine HW.out.mono ?_
    rintro e w2 ⟨f1, rfl, hd, hsw, hok⟩
    obtain ⟨_, _, q3, _, _⟩ := hsw.out.yes rfl
    rw [HQ0.out.2.2.2.2.2.1, HQ0.out.2.2.2.2.2.2.1, HQ0.out.2.2.2.2.2.2.2, HIL.out] at q3
    have q3' : f1.steps = (ni : Int) := by rw [q3]; omega
    have HST := Lib.hid (steps_any g f1 w2 hd.out.1)
    rw [q3'] at HST
    have HB2 : Hid (Below w.heap.size w w2) := below_done2 HB1.out hd.out HB1.out.size hg
    have HAW := Lib.hid (awake20_any w2 (HT.out.below HB2.out HT.out.1))
    clear q3 q3' hd hsw hok HF1 HB1 HQ0 HW
    go_wp2_with fail
    refine HST.out.mono ?_
    rintro e w3 ⟨rfl, rfl⟩
    go_wp2_with fail
    refine HAW.out.mono ?_
    rintro e w4 ⟨rfl, hb4⟩
    go_wp2_with fail
    go_ret
    exact ⟨rfl, HB2.out.trans (hb4.mono HB2.out.size)⟩
  · have hn1 : (0 : Int) < nf := by omega
    have HW := Lib.hid (swrite_free (s := 0) (a := 2) (cap := fcap) HF1.out (HF.out.below HB1.out) HAF.out HB1.out.size HQ0.out.1 (.inl rfl) rfl (by omega) hf2 HQ0.out.2.2.2.2.1 (by omega) (by rw [HQ0.out.2.2.1, HQ0.out.2.2.2.1]; decide) (by rw [HQ0.out.2.2.1, HQ0.out.2.2.2.1]; decide) HQ0.out.2.1)
    go_wp2_with fail
    refine HW.out.mono ?_
    rintro e w2 ⟨f1, rfl, hd, hsw, hok⟩
    obtain ⟨q1, q2, q3, q4, q5⟩ := hsw.out.yes rfl
    rw [HQ0.out.2.2.2.2.2.1, HQ0.out.2.2.2.2.2.2.1, HQ0.out.2.2.2.2.2.2.2, HFL.out] at q3
    have q3' : f1.steps = (nf : Int) := by rw [q3]; omega
    have HST := Lib.hid (steps_any g f1 w2 hd.out.1)
    rw [q3'] at HST
    have HB2 : Hid (Below w.heap.size w w2) := below_done2 HB1.out hd.out HB1.out.size hg
    have HF2 : Hid (FlAt w2 g f1) := hd.out.1
    have HNB : Hid (NonF f1 2 fst) := nonF_of q1 q2 (by have := HFL.out; omega)
    have her : ∀ j, f1.er j < f1.wear := by
      intro j
      have h1 := hsw.out.er j
      rw [HQ0.out.2.2.2.1] at h1
      rw [hsw.out.wear, HQ0.out.2.2.1]
      split at h1 <;> omega
    have HW2 := Lib.hid (swrite_free (s := 0) (a := 2) (cap := icap) HF2.out (HI.out.below HB2.out) HAI.out HB2.out.size (q4.trans HQ0.out.1) (.inl rfl) rfl hi1 hi2 hok.out (by omega) (her _) (her _) (q5 HQ0.out.2.1))
    have HS1 := Lib.hid q3'
    have HR : Hid (Row w2 w.heap.size FA nf (bv fst)) := HF.out.below HB2.out
    clear q1 q2 q3 q4 q5 q3' hd hsw hok HF1 HB1 HQ0 HW her hn0
    go_wp2_with fail
    refine HST.out.mono ?_
    rintro e w3 ⟨rfl, rfl⟩
    obtain ⟨M0, hM0⟩ : ∃ M0, M0 = nonB f1 2 := ⟨_, rfl⟩
    obtain ⟨M1, hM1⟩ : ∃ M1, M1 = nonB f1 (2 + 1) := ⟨_, rfl⟩
    have b0 : 0 ≤ M0 ∧ M0 ≤ 1 := by rw [hM0]; unfold nonB; split <;> omega
    have b1 : 0 ≤ M1 ∧ M1 ≤ 1 := by rw [hM1]; unfold nonB; split <;> omega
    have HM0 := Lib.hid hM0
    have HM1 := Lib.hid hM1
    have b00 := b0.1
    have b01 := b0.2
    have b10 := b1.1
    have b11 := b1.2
    clear hM0 hM1 b0 b1 HST
    go_wp2_with fail
    go_loop [8, 46] (fun u v => ∃ i : Nat, i ≤ 2 ∧ v = .int .i64 i ∧ u = .int .i64 (moAt M0 M1 i)) (fun _ v => 2 - (intOf v).toNat)
    case atStart => exact ⟨0, by omega, rfl, rfl⟩
    case round =>
      obtain ⟨i, hi, rfl, rfl⟩ := hrel
      rcases (show i = 0 ∨ i = 1 ∨ i = 2 by omega) with rfl | rfl | rfl
      · rw [show moAt M0 M1 0 = 0 from rfl]
        go_wp2_with fail
        go_loop [8, 51] (fun u v => ∃ k : Nat, k ≤ nf ∧ v = .int .i64 k ∧ u = .int .i64 0 ∧ Hid (∀ j (hj : j < fst.length), j < k → j / 256 = 0 → fst[j] = 255)) (fun _ v => nf - (intOf v).toNat)
        case atStart => exact ⟨0, by omega, rfl, rfl, (show ∀ j (hj : j < fst.length), j < 0 → j / 256 = 0 → fst[j] = 255 from fun j _ hj _ => absurd hj (by omega))⟩
        case round =>
          obtain ⟨k, hk, rfl, rfl, hall⟩ := hrel
          by_cases hlt : k < nf
          · obtain ⟨b, o, rfl, _, hkl, hcell⟩ := HR.out.byteAt hlt
            have hk5 : (k : Int) ≤ 512 := by omega
            by_cases hki : k / 256 = 0
            · have e5 : ((k : Int) / 256 == 0) = true := by rw [beq_iff_eq]; omega
              by_cases hx : fst[k] = 255
              · have e6 : ((fst[k].toNat : Int) != 255) = false := by rw [hx]; rfl
                have hall2 : Hid (∀ j (hj : j < fst.length), j < k + 1 → j / 256 = 0 → fst[j] = 255) := by
                  intro j hj hjk hji
                  by_cases e : j < k
                  · exact hall.out j hj e hji
                  · obtain rfl : j = k := by omega
                    exact hx
                clear hx hall hki
                go_wp2_with fail
                go_round
                case rel => exact ⟨k + 1, by omega, by go_num, rfl, hall2⟩
                case measure => simp [intOf]; omega
              · have e6 : ((fst[k].toNat : Int) != 255) = true := bne_iff_ne.2 fun e => hx (UInt8.toNat.inj (by rw [show fst[k].toNat = 255 by omega]; rfl))
                have HN : Hid (M0 = 1) := by show _ = _; rw [HM0.out]; exact HNB.out.no 0 (by omega) k hkl hki hx
                clear hx hall hki
                go_wp2_with fail
                go_round
                case rel => exact ⟨1, by omega, by go_num, by show _ = Value.int .i64 M0; rw [HN.out]⟩
                case measure => simp [intOf]
            · have e5 : ((k : Int) / 256 == 0) = false := by rw [beq_eq_false_iff_ne]; omega
              have hall2 : Hid (∀ j (hj : j < fst.length), j < k + 1 → j / 256 = 0 → fst[j] = 255) := by
                intro j hj hjk hji
                by_cases e : j < k
                · exact hall.out j hj e hji
                · obtain rfl : j = k := by omega
                  exact absurd hji hki
              clear hall hki
              go_wp2_with fail
              go_round
              case rel => exact ⟨k + 1, by omega, by go_num, rfl, hall2⟩
              case measure => simp [intOf]; omega
          · obtain rfl : nf = k := by omega
            have HN : Hid (M0 = 0) := by show _ = _; rw [HM0.out]; exact HNB.out.yes 0 (by omega) (fun j hj hji => hall.out j hj (by have := HFL.out; omega) hji)
            clear hall
            go_wp2_with fail
            go_round
            case rel => exact ⟨1, by omega, by go_num, by show _ = Value.int .i64 M0; rw [HN.out]⟩
            case measure => simp [intOf]
      · rw [show moAt M0 M1 1 = M0 from rfl]
        go_wp2_with fail
        go_loop [8, 51] (fun u v => ∃ k : Nat, k ≤ nf ∧ v = .int .i64 k ∧ u = .int .i64 M0 ∧ Hid (∀ j (hj : j < fst.length), j < k → j / 256 = 1 → fst[j] = 255)) (fun _ v => nf - (intOf v).toNat)
        case atStart => exact ⟨0, by omega, rfl, rfl, (show ∀ j (hj : j < fst.length), j < 0 → j / 256 = 1 → fst[j] = 255 from fun j _ hj _ => absurd hj (by omega))⟩
        case round =>
          obtain ⟨k, hk, rfl, rfl, hall⟩ := hrel
          by_cases hlt : k < nf
          · obtain ⟨b, o, rfl, _, hkl, hcell⟩ := HR.out.byteAt hlt
            have hk5 : (k : Int) ≤ 512 := by omega
            by_cases hki : k / 256 = 1
            · have e5 : ((k : Int) / 256 == 1) = true := by rw [beq_iff_eq]; omega
              by_cases hx : fst[k] = 255
              · have e6 : ((fst[k].toNat : Int) != 255) = false := by rw [hx]; rfl
                have hall2 : Hid (∀ j (hj : j < fst.length), j < k + 1 → j / 256 = 1 → fst[j] = 255) := by
                  intro j hj hjk hji
                  by_cases e : j < k
                  · exact hall.out j hj e hji
                  · obtain rfl : j = k := by omega
                    exact hx
                clear hx hall hki
                go_wp2_with fail
                go_round
                case rel => exact ⟨k + 1, by omega, by go_num, rfl, hall2⟩
                case measure => simp [intOf]; omega
              · have e6 : ((fst[k].toNat : Int) != 255) = true := bne_iff_ne.2 fun e => hx (UInt8.toNat.inj (by rw [show fst[k].toNat = 255 by omega]; rfl))
                have HN : Hid (M1 = 1) := by show _ = _; rw [HM1.out]; exact HNB.out.no 1 (by omega) k hkl hki hx
                clear hx hall hki
                go_wp2_with fail
                go_round
                case rel => exact ⟨2, by omega, by go_num, by show _ = Value.int .i64 (M0 + M1); rw [HN.out]⟩
                case measure => simp [intOf]
            · have e5 : ((k : Int) / 256 == 1) = false := by rw [beq_eq_false_iff_ne]; omega
              have hall2 : Hid (∀ j (hj : j < fst.length), j < k + 1 → j / 256 = 1 → fst[j] = 255) := by
                intro j hj hjk hji
                by_cases e : j < k
                · exact hall.out j hj e hji
                · obtain rfl : j = k := by omega
                  exact absurd hji hki
              clear hall hki
              go_wp2_with fail
              go_round
              case rel => exact ⟨k + 1, by omega, by go_num, rfl, hall2⟩
              case measure => simp [intOf]; omega
          · obtain rfl : nf = k := by omega
            have HN : Hid (M1 = 0) := by show _ = _; rw [HM1.out]; exact HNB.out.yes 1 (by omega) (fun j hj hji => hall.out j hj (by have := HFL.out; omega) hji)
            clear hall
            go_wp2_with fail
            go_round
            case rel => exact ⟨2, by omega, by go_num, by show _ = Value.int .i64 (M0 + M1); rw [HN.out, Int.add_zero]⟩
            case measure => simp [intOf]
      · rw [show moAt M0 M1 2 = M0 + M1 from rfl]
        go_wp2_with fail
        refine HW2.out.mono ?_
        rintro e w4 ⟨f2, rfl, hd, hsw, hok⟩
        obtain ⟨_, _, q3, _, _⟩ := hsw.out.yes rfl
        rw [HS1.out, HIL.out, ← HM0.out, ← HM1.out] at q3
        have HST := Lib.hid (steps_any g f2 w4 hd.out.1)
        rw [q3] at HST
        have HB3 : Hid (Below w.heap.size w w4) := below_done2 HB2.out hd.out HB2.out.size hg
        have HAW := Lib.hid (awake20_any w4 (HT.out.below HB3.out HT.out.1))
        clear q3 hd hsw hok HF2 HB2 HW2 HR HNB
        go_wp2_with fail
        refine HST.out.mono ?_
        rintro e w5 ⟨rfl, rfl⟩
        go_wp2_with fail
        refine HAW.out.mono ?_
        rintro e w6 ⟨rfl, hb6⟩
        go_wp2_with fail
        go_ret
        exact ⟨rfl, HB3.out.trans (hb6.mono HB3.out.size)⟩
set_option maxRecDepth 100000 in
set_option maxHeartbeats 12800000 in
theorem steps_walk1 (x : Int) (hx : wrap64 ((IntKind.u64.wrap x).tmod 2) = 1) (FA : Option Addr) (nf fcap : Nat) (fst : List UInt8) (IA : Option Addr) (ni icap : Nat) (img : List UInt8) (w : World) (ht : Tab w) (hl : Row w w.heap.size FA nf (bv fst)) (hl2 : Row w w.heap.size IA ni (bv img))
    (hf2 : nf ≤ 512) (hi1 : 1 ≤ ni) (hi2 : ni ≤ 512) :
    Calls Tryd.prog 5 #[.int .i64 x, .slice FA nf fcap, .slice IA ni icap] w fun e w' => e = .returned (.bool true) ∧ Below w.heap.size w w' := by
  have HT := Lib.hid ht
  have HF := Lib.hid hl
  have HI := Lib.hid hl2
  have HFL := Lib.hid hl.blen
  have HIL := Lib.hid hl2.blen
  have HK := Lib.hid hx
  have hi1' : ¬ ((ni : Int) < 1) := by omega
  clear ht hl hl2 hx
  go_enter Tryd.func5, Tryd.ntmps5
  go_wp2_with (rw [HK.out])
  refine (new_any 10 w ⟨by omega, by omega⟩).mono ?_
  rintro e w1 ⟨g, rfl, hg, hf, hb⟩
  have HQ0 : Hid (((flNew 10).fill 0 3584).down = false ∧ ((flNew 10).fill 0 3584).there = false ∧ ((flNew 10).fill 0 3584).wear = 10 ∧ (∀ j, ((flNew 10).fill 0 3584).er j = 0) ∧ ((flNew 10).fill 0 3584).Ok 0 ∧ ((flNew 10).fill 0 3584).steps = 0 ∧ nonB ((flNew 10).fill 0 3584) 4 = 0 ∧ nonB ((flNew 10).fill 0 3584) (4 + 1) = 0) :=
    ⟨rfl, rfl, rfl, fun s => rfl, new_ok2 10 (by decide), rfl, new_nonB 10 _ (by omega), new_nonB 10 _ (by omega)⟩
  generalize (flNew 10).fill 0 3584 = f0 at *
  have HB1 : Hid (Below w.heap.size w w1) := hb
  have HF1 : Hid (FlAt w1 g f0) := hf
  have HA : ∀ (A : Option Addr) (n : Nat) (l : List UInt8), Row w w.heap.size A n (bv l) → 0 < n → ∀ b o, A = some ⟨b, o, none⟩ → b ≠ g := by
    intro A n l hr h0 b' o' e
    obtain ⟨b2, o2, e2, hb2, _⟩ := hr.2 h0
    have e3 := e2.symm.trans e
    injection e3 with e3
    injection e3 with e3
    omega
  have HAF := Lib.hid (HA _ _ _ HF.out)
  have HAI := Lib.hid (HA _ _ _ HI.out)
  clear hb hf HA
  by_cases hn0 : nf = 0
  · subst hn0
    have HW := Lib.hid (swrite_free (s := 1) (a := 4) (cap := icap) HF1.out (HI.out.below HB1.out) HAI.out HB1.out.size HQ0.out.1 (.inr rfl) rfl hi1 hi2 HQ0.out.2.2.2.2.1 (by omega) (by rw [HQ0.out.2.2.1, HQ0.out.2.2.2.1]; decide) (by rw [HQ0.out.2.2.1, HQ0.out.2.2.2.1]; decide) HQ0.out.2.1)
    clear HF HAF
    go_wp2_with fail
    refine HW.out.mono ?_
    rintro e w2 ⟨f1, rfl, hd, hsw, hok⟩
    obtain ⟨_, _, q3, _, _⟩ := hsw.out.yes rfl
    rw [HQ0.out.2.2.2.2.2.1, HQ0.out.2.2.2.2.2.2.1, HQ0.out.2.2.2.2.2.2.2, HIL.out] at q3
    have q3' : f1.steps = (ni : Int) := by rw [q3]; omega
    have HST := Lib.hid (steps_any g f1 w2 hd.out.1)
    rw [q3'] at HST
    have HB2 : Hid (Below w.heap.size w w2) := below_done2 HB1.out hd.out HB1.out.size hg
    have HAW := Lib.hid (awake20_any w2 (HT.out.below HB2.out HT.out.1))
    clear q3 q3' hd hsw hok HF1 HB1 HQ0 HW
    go_wp2_with fail
    refine HST.out.mono ?_
    rintro e w3 ⟨rfl, rfl⟩
    go_wp2_with fail
    refine HAW.out.mono ?_
    rintro e w4 ⟨rfl, hb4⟩
    go_wp2_with fail
    go_ret
    exact ⟨rfl, HB2.out.trans (hb4.mono HB2.out.size)⟩
  · have hn1 : (0 : Int) < nf := by omega
    have HW := Lib.hid (swrite_free (s := 1) (a := 4) (cap := fcap) HF1.out (HF.out.below HB1.out) HAF.out HB1.out.size HQ0.out.1 (.inr rfl) rfl (by omega) hf2 HQ0.out.2.2.2.2.1 (by omega) (by rw [HQ0.out.2.2.1, HQ0.out.2.2.2.1]; decide) (by rw [HQ0.out.2.2.1, HQ0.out.2.2.2.1]; decide) HQ0.out.2.1)
    go_wp2_with fail
    refine HW.out.mono ?_
    rintro e w2 ⟨f1, rfl, hd, hsw, hok⟩
    obtain ⟨q1, q2, q3, q4, q5⟩ := hsw.out.yes rfl
    rw [HQ0.out.2.2.2.2.2.1, HQ0.out.2.2.2.2.2.2.1, HQ0.out.2.2.2.2.2.2.2, HFL.out] at q3
    have q3' : f1.steps = (nf : Int) := by rw [q3]; omega
    have HST := Lib.hid (steps_any g f1 w2 hd.out.1)
    rw [q3'] at HST
    have HB2 : Hid (Below w.heap.size w w2) := below_done2 HB1.out hd.out HB1.out.size hg
    have HF2 : Hid (FlAt w2 g f1) := hd.out.1
    have HNB : Hid (NonF f1 4 fst) := nonF_of q1 q2 (by have := HFL.out; omega)
    have her : ∀ j, f1.er j < f1.wear := by
      intro j
      have h1 := hsw.out.er j
      rw [HQ0.out.2.2.2.1] at h1
      rw [hsw.out.wear, HQ0.out.2.2.1]
      split at h1 <;> omega
    have HW2 := Lib.hid (swrite_free (s := 1) (a := 4) (cap := icap) HF2.out (HI.out.below HB2.out) HAI.out HB2.out.size (q4.trans HQ0.out.1) (.inr rfl) rfl hi1 hi2 hok.out (by omega) (her _) (her _) (q5 HQ0.out.2.1))
    have HS1 := Lib.hid q3'
    have HR : Hid (Row w2 w.heap.size FA nf (bv fst)) := HF.out.below HB2.out
    clear q1 q2 q3 q4 q5 q3' hd hsw hok HF1 HB1 HQ0 HW her hn0
    go_wp2_with fail
    refine HST.out.mono ?_
    rintro e w3 ⟨rfl, rfl⟩
    obtain ⟨M0, hM0⟩ : ∃ M0, M0 = nonB f1 4 := ⟨_, rfl⟩
    obtain ⟨M1, hM1⟩ : ∃ M1, M1 = nonB f1 (4 + 1) := ⟨_, rfl⟩
    have b0 : 0 ≤ M0 ∧ M0 ≤ 1 := by rw [hM0]; unfold nonB; split <;> omega
    have b1 : 0 ≤ M1 ∧ M1 ≤ 1 := by rw [hM1]; unfold nonB; split <;> omega
    have HM0 := Lib.hid hM0
    have HM1 := Lib.hid hM1
    have b00 := b0.1
    have b01 := b0.2
    have b10 := b1.1
    have b11 := b1.2
    clear hM0 hM1 b0 b1 HST
    go_wp2_with fail
    go_loop [8, 46] (fun u v => ∃ i : Nat, i ≤ 2 ∧ v = .int .i64 i ∧ u = .int .i64 (moAt M0 M1 i)) (fun _ v => 2 - (intOf v).toNat)
    case atStart => exact ⟨0, by omega, rfl, rfl⟩
    case round =>
      obtain ⟨i, hi, rfl, rfl⟩ := hrel
      rcases (show i = 0 ∨ i = 1 ∨ i = 2 by omega) with rfl | rfl | rfl
      · rw [show moAt M0 M1 0 = 0 from rfl]
        go_wp2_with fail
        go_loop [8, 51] (fun u v => ∃ k : Nat, k ≤ nf ∧ v = .int .i64 k ∧ u = .int .i64 0 ∧ Hid (∀ j (hj : j < fst.length), j < k → j / 256 = 0 → fst[j] = 255)) (fun _ v => nf - (intOf v).toNat)
        case atStart => exact ⟨0, by omega, rfl, rfl, (show ∀ j (hj : j < fst.length), j < 0 → j / 256 = 0 → fst[j] = 255 from fun j _ hj _ => absurd hj (by omega))⟩
        case round =>
          obtain ⟨k, hk, rfl, rfl, hall⟩ := hrel
          by_cases hlt : k < nf
          · obtain ⟨b, o, rfl, _, hkl, hcell⟩ := HR.out.byteAt hlt
            have hk5 : (k : Int) ≤ 512 := by omega
            by_cases hki : k / 256 = 0
            · have e5 : ((k : Int) / 256 == 0) = true := by rw [beq_iff_eq]; omega
              by_cases hx : fst[k] = 255
              · have e6 : ((fst[k].toNat : Int) != 255) = false := by rw [hx]; rfl
                have hall2 : Hid (∀ j (hj : j < fst.length), j < k + 1 → j / 256 = 0 → fst[j] = 255) := by
                  intro j hj hjk hji
                  by_cases e : j < k
                  · exact hall.out j hj e hji
                  · obtain rfl : j = k := by omega
                    exact hx
                clear hx hall hki
                go_wp2_with fail
                go_round
                case rel => exact ⟨k + 1, by omega, by go_num, rfl, hall2⟩
                case measure => simp [intOf]; omega
              · have e6 : ((fst[k].toNat : Int) != 255) = true := bne_iff_ne.2 fun e => hx (UInt8.toNat.inj (by rw [show fst[k].toNat = 255 by omega]; rfl))
                have HN : Hid (M0 = 1) := by show _ = _; rw [HM0.out]; exact HNB.out.no 0 (by omega) k hkl hki hx
                clear hx hall hki
                go_wp2_with fail
                go_round
                case rel => exact ⟨1, by omega, by go_num, by show _ = Value.int .i64 M0; rw [HN.out]⟩
                case measure => simp [intOf]
            · have e5 : ((k : Int) / 256 == 0) = false := by rw [beq_eq_false_iff_ne]; omega
              have hall2 : Hid (∀ j (hj : j < fst.length), j < k + 1 → j / 256 = 0 → fst[j] = 255) := by
                intro j hj hjk hji
                by_cases e : j < k
                · exact hall.out j hj e hji
                · obtain rfl : j = k := by omega
                  exact absurd hji hki
              clear hall hki
              go_wp2_with fail
              go_round
              case rel => exact ⟨k + 1, by omega, by go_num, rfl, hall2⟩
              case measure => simp [intOf]; omega
          · obtain rfl : nf = k := by omega
            have HN : Hid (M0 = 0) := by show _ = _; rw [HM0.out]; exact HNB.out.yes 0 (by omega) (fun j hj hji => hall.out j hj (by have := HFL.out; omega) hji)
            clear hall
            go_wp2_with fail
            go_round
            case rel => exact ⟨1, by omega, by go_num, by show _ = Value.int .i64 M0; rw [HN.out]⟩
            case measure => simp [intOf]
      · rw [show moAt M0 M1 1 = M0 from rfl]
        go_wp2_with fail
        go_loop [8, 51] (fun u v => ∃ k : Nat, k ≤ nf ∧ v = .int .i64 k ∧ u = .int .i64 M0 ∧ Hid (∀ j (hj : j < fst.length), j < k → j / 256 = 1 → fst[j] = 255)) (fun _ v => nf - (intOf v).toNat)
        case atStart => exact ⟨0, by omega, rfl, rfl, (show ∀ j (hj : j < fst.length), j < 0 → j / 256 = 1 → fst[j] = 255 from fun j _ hj _ => absurd hj (by omega))⟩
        case round =>
          obtain ⟨k, hk, rfl, rfl, hall⟩ := hrel
          by_cases hlt : k < nf
          · obtain ⟨b, o, rfl, _, hkl, hcell⟩ := HR.out.byteAt hlt
            have hk5 : (k : Int) ≤ 512 := by omega
            by_cases hki : k / 256 = 1
            · have e5 : ((k : Int) / 256 == 1) = true := by rw [beq_iff_eq]; omega
              by_cases hx : fst[k] = 255
              · have e6 : ((fst[k].toNat : Int) != 255) = false := by rw [hx]; rfl
                have hall2 : Hid (∀ j (hj : j < fst.length), j < k + 1 → j / 256 = 1 → fst[j] = 255) := by
                  intro j hj hjk hji
                  by_cases e : j < k
                  · exact hall.out j hj e hji
                  · obtain rfl : j = k := by omega
                    exact hx
                clear hx hall hki
                go_wp2_with fail
                go_round
                case rel => exact ⟨k + 1, by omega, by go_num, rfl, hall2⟩
                case measure => simp [intOf]; omega
              · have e6 : ((fst[k].toNat : Int) != 255) = true := bne_iff_ne.2 fun e => hx (UInt8.toNat.inj (by rw [show fst[k].toNat = 255 by omega]; rfl))
                have HN : Hid (M1 = 1) := by show _ = _; rw [HM1.out]; exact HNB.out.no 1 (by omega) k hkl hki hx
                clear hx hall hki
                go_wp2_with fail
                go_round
                case rel => exact ⟨2, by omega, by go_num, by show _ = Value.int .i64 (M0 + M1); rw [HN.out]⟩
                case measure => simp [intOf]
            · have e5 : ((k : Int) / 256 == 1) = false := by rw [beq_eq_false_iff_ne]; omega
              have hall2 : Hid (∀ j (hj : j < fst.length), j < k + 1 → j / 256 = 1 → fst[j] = 255) := by
                intro j hj hjk hji
                by_cases e : j < k
                · exact hall.out j hj e hji
                · obtain rfl : j = k := by omega
                  exact absurd hji hki
              clear hall hki
              go_wp2_with fail
              go_round
              case rel => exact ⟨k + 1, by omega, by go_num, rfl, hall2⟩
              case measure => simp [intOf]; omega
          · obtain rfl : nf = k := by omega
            have HN : Hid (M1 = 0) := by show _ = _; rw [HM1.out]; exact HNB.out.yes 1 (by omega) (fun j hj hji => hall.out j hj (by have := HFL.out; omega) hji)
            clear hall
            go_wp2_with fail
            go_round
            case rel => exact ⟨2, by omega, by go_num, by show _ = Value.int .i64 (M0 + M1); rw [HN.out, Int.add_zero]⟩
            case measure => simp [intOf]
      · rw [show moAt M0 M1 2 = M0 + M1 from rfl]
        go_wp2_with fail
        refine HW2.out.mono ?_
        rintro e w4 ⟨f2, rfl, hd, hsw, hok⟩
        obtain ⟨_, _, q3, _, _⟩ := hsw.out.yes rfl
        rw [HS1.out, HIL.out, ← HM0.out, ← HM1.out] at q3
        have HST := Lib.hid (steps_any g f2 w4 hd.out.1)
        rw [q3] at HST
        have HB3 : Hid (Below w.heap.size w w4) := below_done2 HB2.out hd.out HB2.out.size hg
        have HAW := Lib.hid (awake20_any w4 (HT.out.below HB3.out HT.out.1))
        clear q3 hd hsw hok HF2 HB2 HW2 HR HNB
        go_wp2_with fail
        refine HST.out.mono ?_
        rintro e w5 ⟨rfl, rfl⟩
        go_wp2_with fail
        refine HAW.out.mono ?_
        rintro e w6 ⟨rfl, hb6⟩
        go_wp2_with fail
        go_ret
        exact ⟨rfl, HB3.out.trans (hb6.mono HB3.out.size)⟩
end Go.Proofs.YtgfdpondnkcogaaDoor
