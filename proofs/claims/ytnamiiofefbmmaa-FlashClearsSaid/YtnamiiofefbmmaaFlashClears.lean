/- FlashClears: programming only clears bits, erasing sets all of one sector; what is done to one sector makes no difference to others; without power nothing changes. For every input, no condition. -/
import Derived.Test.YtnamiiofefbmmaaFlChange
import Derived.Deep.CutBlock
import Derived.Deep.DeepCutAuto
namespace Go.Proofs.Ytnamiiofefbmmaa
open Go.ChangeShapes Go.WideShapes Go.ChangeAt Go.RowKit
theorem clear_bits (x y : UInt8) : bits .andNot .u8 ((x &&& y).toNat : Int) (x.toNat : Int) = 0 := by
  rw [u8_andNot_nat _ _ (CrcM.b_lt _) (CrcM.b_lt _), UInt8.toNat_and]
  have h := CrcM.b_lt x
  generalize x.toNat = a at *
  generalize y.toNat = b at *
  have : a &&& b &&& (255 - a) = 0 := by
    apply Nat.eq_of_testBit_eq
    intro i
    have e : 255 - a = (2 ^ 8 - 1) ^^^ a := by
      have : ∀ a : Fin 256, 255 - a.val = (2 ^ 8 - 1) ^^^ a.val := by decide +kernel
      exact this ⟨a, by omega⟩
    rw [e, Nat.testBit_and, Nat.testBit_and, Nat.testBit_xor, Nat.testBit_two_pow_sub_one, Nat.zero_testBit]
    cases ha : a.testBit i with
    | false => simp
    | true =>
      have hi : i < 8 := by
        rcases Nat.lt_or_ge i 8 with h8 | h8
        · exact h8
        · have : a.testBit i = false := Nat.testBit_lt_two_pow (Nat.lt_of_lt_of_le h (by show 2 ^ 8 ≤ 2 ^ i; exact Nat.pow_le_pow_right (by omega) h8))
          rw [ha] at this; cases this
      simp [hi]
  rw [this]; rfl
set_option maxRecDepth 100000 in
set_option maxHeartbeats 6400000 in
theorem clears_walk (A : Option Addr) (n cap : Nat) (ys : List FCall) (w : World) (hl : FCalls w A n ys) :
    Calls Try.prog 5 #[.slice A n cap] w fun e w' => e = .returned (.bool true) ∧ Below w.heap.size w w' := by
  have HL := Lib.hid hl
  have HN := Lib.hid hl.1
  clear hl
  go_enter Try.func5, Try.ntmps5
  go_wp2_with fail
  refine (few_any A n cap ys w HL.out).mono ?_
  rintro e w0 ⟨r, rfl, hr, hb0⟩
  cases r with
  | false =>
    go_wp2_with fail
    refine (awake16_any _).mono ?_
    rintro e w4 ⟨rfl, hb4⟩
    go_wp2_with fail
    go_ret
    exact ⟨rfl, hb0.out.trans (hb4.mono hb0.out.size)⟩
  | true =>
  have HM := Lib.hid (hr.out rfl)
  have hn80 : n ≤ 80 := by have := HM.out.1; have := HN.out; omega
  clear hr
  go_wp2_with fail
  refine (new_any 100 w0 ⟨by omega, by omega⟩).mono ?_
  rintro e w1 ⟨g, rfl, hg, hf, hb1⟩
  have hs0 := hb0.out.size
  have hok : Hid (((flNew 100).fill 0 3584).Ok 0) := ⟨by decide, by decide, by decide, (fun s => Int.le_refl 0), by decide⟩
  have HB1 := Lib.hid (hb0.out.trans (hb1.out.mono hs0))
  have hgw : w.heap.size ≤ g := by omega
  generalize (flNew 100).fill 0 3584 = f0 at *
  clear hb0 hb1
  go_wp2_with fail
  go_loopw [19] (fun i wr => ∃ (k : Nat) (f : Fl), k ≤ n ∧ i = .int .i64 k ∧ Hid (FlAt wr g f) ∧ Hid (f.Ok (301 * k)) ∧ Hid (Below w.heap.size w wr)) (fun i _ => n - (intOf i).toNat)
  case atStart => exact ⟨0, f0, by omega, rfl, hf, hok, HB1⟩
  case round =>
    clear hf hok HB1
    obtain ⟨k, f, hk, rfl, hf, hok, hb⟩ := hrel
    have hsz := hb.out.size
    by_cases hlt : k < n
    · obtain ⟨b, o, y, rfl, hbl, hym, hyk, hyg, c0, c1, c2, c3⟩ := HL.out.at_ hb.out hlt
      have hm3 := HM.out.2 y hym
      obtain ⟨d, a, m, yA, ym, yc, yl⟩ := y
      dsimp only at c0 c1 c2 c3 hm3
      have HYG := Lib.hid hyg
      obtain ⟨p, hp, hP⟩ := pick_in a 3584 (by omega) (by omega)
      have HP := Lib.hid hP
      clear hyg hym hP hyk
      obtain ⟨W0, hW0⟩ : ∃ W0, wr.alloc (.cells #[.int .i64 d, .int .i64 a, .int .i64 m, .slice yA ym yc] 31) = W0 := ⟨_, rfl⟩
      have hbW : Below wr.heap.size wr W0 := by rw [← hW0]; exact (Below.refl _ _).alloc (Nat.le_refl _) _
      have hxW : W0.heap[wr.heap.size]? = some (.cells #[.int .i64 d, .int .i64 a, .int .i64 m, .slice yA ym yc] 31 (0, 0)) := by rw [← hW0]; exact heap_alloc_new wr _
      obtain ⟨gc, hgc⟩ : ∃ gc, wr.heap.size = gc := ⟨_, rfl⟩
      have HW0 := Lib.hid hW0
      have HBW := Lib.hid (hb.out.trans (hbW.mono hsz))
      have HF0 := Lib.hid (hf.out.below hbW)
      have HX := Lib.hid hxW
      have hgg : g < wr.heap.size := hf.out.lt
      clear hW0 hbW hxW hf hb
      go_upto_region 7 with fail
      rw [HW0.out]
      rw [hgc] at HX
      clear HW0 c0 c1 c2 c3 hsz
      go_wp2_with fail
      refine (bytes_any g f W0 HF0.out).mono ?_
      rintro e w2 ⟨A2, n2, c2', rfl, hn2, hown2, hb2⟩
      obtain rfl : n2 = 3584 := hn2.out.trans (Fl.sub_length _ _ _)
      have HROW2 := Lib.hid (Row.of_own hown2)
      have HAPART : Hid (∀ b o, A2 = some ⟨b, o, none⟩ → b ≠ g) := by
        intro b' o' e
        obtain ⟨g2, c22, hv, hg2, _⟩ := hown2.form (by omega)
        injection hv with e1 e2 e3
        rw [e] at e1
        injection e1 with e1
        injection e1 with e1
        have := HF0.out.lt
        omega
      have HBW2 := Lib.hid (HBW.out.trans (hb2.mono HBW.out.size))
      have HF2 := Lib.hid (HF0.out.below hb2)
      have hgc0 : gc < W0.heap.size := (Array.getElem?_eq_some_iff.1 HX.out).1
      have HX2 := Lib.hid ((hb2.block gc hgc0).trans HX.out)
      clear hown2 hb2 hn2 HBW HF0 HX
      obtain ⟨dn, hdn⟩ : ∃ dn, f.down = dn := ⟨_, rfl⟩
      have HDN := Lib.hid hdn
      clear hdn
      go_wp2_with fail
      refine (down_any g f dn w2 HF2.out HDN.out).mono ?_
      rintro e w' ⟨rfl, rfl⟩
      have hgc2 : gc < w2.heap.size := (Array.getElem?_eq_some_iff.1 HX2.out).1
      have c0 : w2.cell? ⟨gc, 0, none⟩ = some (.int .i64 d) := by rw [cell_of_row _ gc 0 _ _ _ HX2.out]; rfl
      have c1 : w2.cell? ⟨gc, 1, none⟩ = some (.int .i64 a) := by rw [cell_of_row _ gc 1 _ _ _ HX2.out]; rfl
      have c2 : w2.cell? ⟨gc, 2, none⟩ = some (.int .i64 m) := by rw [cell_of_row _ gc 2 _ _ _ HX2.out]; rfl
      have c3 : w2.cell? ⟨gc, 3, none⟩ = some (.slice yA ym yc) := by rw [cell_of_row _ gc 3 _ _ _ HX2.out]; rfl
      go_upto_region 10 with (rw [HP.out])
      have HAG : Hid (0 < ym → ∀ b o, yA = some ⟨b, o, none⟩ → b ≠ g) := by
        intro h0 b' o' e
        obtain ⟨b2, o2, e2, hb2, _⟩ := HYG.out.1.2 h0
        have e3 := e2.symm.trans e
        injection e3 with e3
        injection e3 with e3
        omega
      have HAG2 : Hid (0 < 3584 → ∀ b o, A2 = some ⟨b, o, none⟩ → b ≠ g) := by
        intro h0 b' o' e
        exact HAPART.out b' o' e
      go_upto_block 2 with fail
      go_cut [35] (fun s wx => s = .int .i64 d ∧ ∃ f3 : Fl, Hid (Done g f3 w2 wx) ∧ Hid (Chg d (p / 256) f f3) ∧ Hid (f3.Ok (301 * ((k + 1 : Nat) : Int))))
      case first =>
        by_cases k1 : d = 1
        · subst k1
          by_cases hmin : (ym : Int) ≤ ((p : Int) / 256 + 1) * 256 - p
          · have hr3 : Row w2 w.heap.size yA ym (bv yl) := HYG.out.1.below HBW2.out
            have HPC := Lib.hid (prog_chg g p ym yc w.heap.size yA yl f w2 (301 * k) HF2.out hr3 HAG.out HBW2.out.size (by omega) (by omega) hok.out (by omega) (by omega))
            have hyc : ym ≤ yc := HYG.out.2.1
            clear hr3
            go_wp2_with fail
            refine HPC.out.mono ?_
            rintro e w3 ⟨r3, f3, rfl, hdn3, hchg3, hok3⟩
            have HCHG := Lib.hid hchg3.out
            have HOK3 : Hid (f3.Ok (301 * ((k + 1 : Nat) : Int))) := hok3.out.more (by push_cast; omega)
            clear hchg3 hok3
            have HD := Lib.hid hdn3.out
            clear hdn3
            go_wp2_with fail
            go_meet
            case rel => exact ⟨rfl, f3, HD, HCHG, HOK3⟩
          · obtain ⟨q, hq⟩ : ∃ q : Nat, ((p : Int) / 256 + 1) * 256 - p = q := ⟨(((p : Int) / 256 + 1) * 256 - p).toNat, by omega⟩
            have hqm : q ≤ ym := by omega
            have hqp : p + q ≤ 256 * (p / 256) + 256 := by omega
            have hr3 : Row w2 w.heap.size yA q (bv (yl.take q)) := by have := (HYG.out.1.below HBW2.out).head (k := q) hqm; rwa [bv_take] at this
            have HPC := Lib.hid (prog_chg g p q yc w.heap.size yA (yl.take q) f w2 (301 * k) HF2.out hr3 (fun h => HAG.out (by omega)) HBW2.out.size hqp (by omega) hok.out (by omega) (by omega))
            have hyc : ym ≤ yc := HYG.out.2.1
            have hqI : (q : Int) ≤ yc := by omega
            have HQ := Lib.hid hq
            have hlt2 : ((p : Int) / 256 + 1) * 256 - p < ym := by omega
            clear hr3 hq hmin
            go_wp2_with (rw [HQ.out])
            refine HPC.out.mono ?_
            rintro e w3 ⟨r3, f3, rfl, hdn3, hchg3, hok3⟩
            have HCHG := Lib.hid hchg3.out
            have HOK3 : Hid (f3.Ok (301 * ((k + 1 : Nat) : Int))) := hok3.out.more (by push_cast; omega)
            clear hchg3 hok3
            have HD := Lib.hid hdn3.out
            clear hdn3
            go_wp2_with fail
            go_meet
            case rel => exact ⟨rfl, f3, HD, HCHG, HOK3⟩
        by_cases k2 : d = 2
        · subst k2
          have HEC := Lib.hid (erase_chg g (p / 256) ((p : Int) / 256) (by omega) f w2 (301 * k) HF2.out (by omega) hok.out (by omega))
          go_wp2_with fail
          refine HEC.out.mono ?_
          rintro e w3 ⟨r3, f3, rfl, hdn3, hchg3, hok3⟩
          have HCHG := Lib.hid hchg3.out
          have HOK3 : Hid (f3.Ok (301 * ((k + 1 : Nat) : Int))) := hok3.out.more (by push_cast; omega)
          clear hchg3 hok3
          have HD := Lib.hid hdn3.out
          clear hdn3
          go_wp2_with fail
          go_meet
          case rel => exact ⟨rfl, f3, HD, HCHG, HOK3⟩
        by_cases k4 : d = 4
        · subst k4
          have hmg := HYG.out.2.2.2.2.2
          have HOK4 : Hid (Fl.Ok { f with there := decide (0 ≤ m), left := m, torn := a } (301 * ((k + 1 : Nat) : Int))) := by
            have h := hok.out
            exact ⟨h.1, by have := h.2.1; show f.steps ≤ _; push_cast; omega, hmg, h.2.2.2.1, h.2.2.2.2⟩
          have HCHG : Hid (Chg 4 (p / 256) f { f with there := decide (0 ≤ m), left := m, torn := a }) := Chg.same _ _ _ rfl
          have HFZ := Lib.hid (fuse_any g m a f w2 HF2.out)
          clear hmg
          generalize ({ f with there := decide (0 ≤ m), left := m, torn := a } : Fl) = f3 at *
          have HOK3 := HOK4
          clear HOK4
          go_wp2_with fail
          refine HFZ.out.mono ?_
          rintro e w3 ⟨rfl, hdn3⟩
          clear HFZ
          have HD := Lib.hid hdn3.out
          clear hdn3
          go_wp2_with fail
          go_meet
          case rel => exact ⟨rfl, f3, HD, HCHG, HOK3⟩
        by_cases k5 : d = 5
        · subst k5
          have HOK3 : Hid (Fl.Ok { f with down := true } (301 * ((k + 1 : Nat) : Int))) := by
            have h := hok.out
            exact ⟨h.1, by have := h.2.1; show f.steps ≤ _; push_cast; omega, h.2.2⟩
          have HCHG : Hid (Chg 5 (p / 256) f { f with down := true }) := Chg.same _ _ _ rfl
          have HFZ := Lib.hid (cut_any g f w2 HF2.out)
          generalize ({ f with down := true } : Fl) = f3 at *
          go_wp2_with fail
          refine HFZ.out.mono ?_
          rintro e w3 ⟨rfl, hdn3⟩
          clear HFZ
          have HD := Lib.hid hdn3.out
          clear hdn3
          go_wp2_with fail
          go_meet
          case rel => exact ⟨rfl, f3, HD, HCHG, HOK3⟩
        · have HOK3 : Hid (f.Ok (301 * ((k + 1 : Nat) : Int))) := hok.out.more (by push_cast; omega)
          have HCHG : Hid (Chg d (p / 256) f f) := Chg.same _ _ _ rfl
          have HD : Hid (Done g f w2 w2) := ⟨HF2.out, ⟨rfl, rfl, rfl, Nat.le_refl _, fun _ _ _ => rfl⟩⟩
          go_wp2_with fail
          go_meet
          case rel => exact ⟨rfl, f, HD, HCHG, HOK3⟩
      case rest =>
        obtain ⟨rfl, f3, hdn3, HCHG, HOK3⟩ := hcut
        generalize wc = w3 at *

        have HBW3 := Lib.hid (HBW2.out.grown hdn3.out.2 HBW2.out.size (by intro k h; injection h with h; omega))
        have HF3 := Lib.hid hdn3.out.1
        have HROW3 := Lib.hid ((HROW2.out.apart HAG2.out hdn3.out.2 (Nat.le_refl _)).more hdn3.out.2.size)
        have HX3 := Lib.hid ((hdn3.out.2.block gc hgc2 (by intro e; injection e with e; omega)).trans HX2.out)
        clear hdn3 HF2 HROW2 HX2 HBW2 c0 c1 c2 c3
        go_wp2_with fail
        refine (bytes_any g f3 w3 HF3.out).mono ?_
        rintro e w4 ⟨A4, n4, c4', rfl, hn4, hown4, hb4⟩
        obtain rfl : n4 = 3584 := hn4.out.trans (Fl.sub_length _ _ _)
        have HROW4 := Lib.hid (Row.of_own hown4)
        have HROWW := Lib.hid ((HROW3.out.below hb4).more hb4.size)
        have HBW4 := Lib.hid (HBW3.out.trans (hb4.mono HBW3.out.size))
        have HF4 := Lib.hid (HF3.out.below hb4)
        have hgc3 : gc < w3.heap.size := (Array.getElem?_eq_some_iff.1 HX3.out).1
        have HX4 := Lib.hid ((hb4.block gc hgc3).trans HX3.out)
        clear hown4 hb4 hn4 HBW3 HF3 HX3 HROW3
        go_wp2_with fail
        go_loopw [84] (fun i wx => ∃ j : Nat, j ≤ 3584 ∧ i = .int .i64 j ∧ Hid (Below w4.heap.size w4 wx)) (fun i _ => 3584 - (intOf i).toNat)
        case atStart => exact ⟨0, by omega, rfl, Below.refl _ _⟩
        case round =>
          obtain ⟨j, hj, rfl, hbx⟩ := hrel
          by_cases hjl : j < 3584
          · obtain ⟨b1, o1, rfl, _, hk1, hc1⟩ := (HROW4.out.below hbx.out).byteAt hjl
            obtain ⟨b2, o2, rfl, _, hk2, hc2⟩ := (HROWW.out.below hbx.out).byteAt hjl
            have hv1 : (f3.sub 0 3584)[j]'hk1 = f3.bs j := by simp [Fl.sub]
            have hv2 : (f.sub 0 3584)[j]'hk2 = f.bs j := by simp [Fl.sub]
            rw [hv1] at hc1
            rw [hv2] at hc2
            have hchg := HCHG.out j hjl
            have hji : (0 : Int) ≤ (j : Int) := by omega
            have hji2 : (j : Int) < 3584 := by omega
            have hgc4 : gc < w4.heap.size := (Array.getElem?_eq_some_iff.1 HX4.out).1
            have c0 : wr.cell? ⟨gc, 0, none⟩ = some (.int .i64 d) := by rw [hbx.out.cell (p := ⟨gc, 0, none⟩) hgc4, cell_of_row _ gc 0 _ _ _ HX4.out]; rfl
            generalize f3.bs j = x1 at *
            generalize f.bs j = x0 at *
            clear hk1 hk2 hv1 hv2
            rcases hchg with hx | ⟨h1, h2, h3⟩
            · subst hx
              clear hjl
              go_wp2_with fail
              go_quiet (fail)
              go_wp2_with fail
              go_roundw
              case rel => exact ⟨j + 1, by omega, by go_num, below_drewN hbx.out _⟩
              case measure => simp [intOf]; omega
            · rw [HDN.out] at h1
              subst h1
              by_cases hx : x1 = x0
              · subst hx
                clear hjl h2 h3
                go_wp2_with fail
                go_quiet (fail)
                go_wp2_with fail
                go_roundw
                case rel => exact ⟨j + 1, by omega, by go_num, below_drewN hbx.out _⟩
                case measure => simp [intOf]; omega
              · have hq : ((x1.toNat : Int) != (x0.toNat : Int)) = true := bne_iff_ne.2 fun e => hx (UInt8.toNat.inj (by omega))
                have hdv : (((j : Int) / 256) != ((p : Int) / 256)) = false := by
                  have : (j : Int) / 256 = (p : Int) / 256 := by omega
                  rw [this]; simp
                clear hjl h2 hx
                rcases h3 with ⟨hd1, y, hy⟩ | ⟨hd2, hff⟩
                · subst hd1
                  have hcl : (bits .andNot .u8 (x1.toNat : Int) (x0.toNat : Int) != 0) = false := by rw [hy, clear_bits]; rfl
                  clear hy
                  go_wp2_with fail
                  go_quiet (fail)
                  go_wp2_with fail
                  go_roundw
                  case rel => exact ⟨j + 1, by omega, by go_num, below_drewN hbx.out _⟩
                  case measure => simp [intOf]; omega
                · subst hd2
                  have hcl : ((x1.toNat : Int) != 255) = false := by rw [hff]; rfl
                  clear hff
                  go_wp2_with fail
                  go_quiet (fail)
                  go_wp2_with fail
                  go_roundw
                  case rel => exact ⟨j + 1, by omega, by go_num, below_drewN hbx.out _⟩
                  case measure => simp [intOf]; omega
          · have HBX := Lib.hid (HBW4.out.trans (hbx.out.mono HBW4.out.size))
            have HFX := Lib.hid (HF4.out.below hbx.out)
            clear hbx HBW4 HF4
            go_wp2_with fail
            go_roundw
            case rel => exact ⟨k + 1, f3, by omega, by go_num, HFX, HOK3, HBX⟩
            case measure => simp [intOf]; omega
    · have HBX := Lib.hid hb.out
      clear hf hb
      go_wp2_with fail
      refine (awake16_any _).mono ?_
      rintro e w4 ⟨rfl, hb4⟩
      go_wp2_with fail
      go_ret
      exact ⟨rfl, HBX.out.trans (hb4.mono HBX.out.size)⟩

set_option maxRecDepth 100000 in
theorem flashClears_lifted (os : Os) (started : os.Started) (H : Type) (enc : TypeId × Value → H) :
    ReturnsInHanded {} Try.checked os 5 .any (Rows.flashClearsSpec.pre6 enc Try.prog Try.f5 Rows.flashClearsRow.domain false) (Rows.flashClearsSpec.post enc Try.prog Try.f5 false true false false) := by
  refine law_lift (C := Try.checked) (tb := 4) Try.own started (by kernel_rfl) Try.func5
    (ChangeSpec.witness6 (enc := enc) (C := Try.checked) false ⟨#[], #[.slice none 0 0], []⟩ 8 (by kernel_rfl) (by kernel_rfl) (by kernel_rfl) (by kernel_rfl)) Try.laidOut (by kernel_rfl) rfl rfl Try.underlying4 ?_ ?_
  · intro ds hds
    match ds, hds with
    | [_], _ => rfl
  intro W base args ds p hval0 hA0 _ _ hsz0
  have hval : ∀ (j : Nat) t v, Try.f5.params[j]? = some t → args[j]? = some v → Value.okWide Try.prog W .any base t v := hval0
  have hA : DataW.TrodAll enc Try.prog W 0 (fun _ => true) true Try.f5.params.toList args.toList ds p := hA0
  rw [Try.params5] at hA hval
  obtain ⟨v0, d0, rfl, rfl, h0⟩ := trodAll_one hA
  obtain ⟨A0, n0, cap0, ys, rfl, hys, _, _⟩ := open_fcallrow Try.underlying22 Try.underlying31 ⟨rfl, rfl, rfl, rfl⟩ Try.underlying3 Try.underlying3 Try.underlying3 Try.underlying29 Try.underlying5 Try.cells5 ⟨by kernel_rfl, by kernel_rfl, by kernel_rfl, by kernel_rfl⟩ (by kernel_rfl) (hval 0 22 v0 rfl rfl) h0
  exact clears_walk A0 n0 cap0 ys W hys

theorem flashClears_holds : Rows.FlashClearsSaid :=
  OpenClaim.holds_of_wide 5 Try.f5 rfl rfl rfl rfl rfl rfl rfl ⟨rfl, rfl, rfl, rfl, rfl⟩ rfl rfl rfl rfl rfl (by kernel_rfl) Try.func5 (by kernel_rfl)
    (of_decide_eq_true (by kernel_rfl)) (by unfold Func.isWrapper; rw [if_neg (of_decide_eq_false (by kernel_rfl))]; exact ⟨rfl, rfl⟩)
    (fun os started H enc _ => flashClears_lifted os started H enc)
end Go.Proofs.Ytnamiiofefbmmaa
