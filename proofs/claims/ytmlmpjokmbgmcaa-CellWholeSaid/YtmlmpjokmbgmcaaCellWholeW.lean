/- CellWhole: its walk. -/
import Derived.Test.YtmlmpjokmbgmcaaCellAw
import Derived.Test.YtmlmpjokmbgmcaaLaw
import Derived.Test.YtmlmpjokmbgmcaaFlFew
namespace Go.Proofs.Ytmlmpjokmbgmcaa
open Go.ChangeShapes Go.WideShapes Go.ChangeAt Go.RowKit
/-- behind k writes, power on: it holds was -/
structure WInv (f : Fl) (k : Nat) (was : List UInt8) : Prop where
  down : f.down = false
  wear : f.wear = 100
  er0 : f.er 0 ≤ k + 1
  er1 : f.er 1 ≤ k + 1
  ok : f.Ok (300 + 300 * k)
  st : ∃ i N, N ≤ k + 1 ∧ Cur f i N was
theorem WInv.has {f : Fl} {k : Nat} {b : List UInt8} (h : WInv f k b) : CellHas f b := by
  obtain ⟨i, N, _, h⟩ := h.st
  exact h.has
theorem WInv.fuse {f : Fl} {k : Nat} {b : List UInt8} (h : WInv f k b) (x : Bool) (n t : Int) (hn : -9223372036854775808 ≤ n ∧ n ≤ 9223372036854775807) : WInv { f with there := x, left := n, torn := t } k b := by
  obtain ⟨h1, h2, h3, h4, h5, i, N, hN, h6⟩ := h
  exact ⟨h1, h2, h3, h4, ⟨h5.1, h5.2.1, hn, h5.2.2.2⟩, i, N, hN, h6.congr rfl⟩
theorem whole_step {g B m cap k : Nat} {A : Option Addr} {b c : List UInt8} {f : Fl} {w : World} (hf : FlAt w g f) (hl : Row w B A m (bv c)) (hA : 0 < m → ∀ b o, A = some ⟨b, o, none⟩ → b ≠ g) (hB : B ≤ w.heap.size) (hm : m ≤ 245)
    (hk : k < 40) (ht : WInv f k b) :
    Calls Try.prog 19 #[.pointer (some ⟨g, 0, none⟩), .slice A m cap] w fun e w' => ∃ r f', e = .returned (.int .i64 r) ∧ Hid (Done g f' w w') ∧ Hid (∃ b', (r = 0 ∧ b' = c ∨ r = 11 ∧ (b' = c ∨ b' = b)) ∧ WInv { f' with down := false } (k + 1) b') := by
  obtain ⟨h1, h2, h3, h4, h5, i, N, hN, h6⟩ := ht
  have hi := h6.1
  have her : f.er (1 - i) < f.wear := by
    rcases (show i = 0 ∨ i = 1 by omega) with rfl | rfl
    · show f.er 1 < f.wear; omega
    · show f.er 0 < f.wear; omega
  refine (cwrite_cur hf hl hA hB hm h1 h5 (by omega) h6 her (by omega)).mono ?_
  rintro e w' ⟨r, f', rfl, hd, hw, hok⟩
  refine ⟨r, f', rfl, hd, ?_⟩
  have e0 : f'.er 0 ≤ k + 1 + 1 := by
    rw [hw.out.er]; unfold erUp; split
    · rename_i h; rw [← h]; omega
    · omega
  have e1 : f'.er 1 ≤ k + 1 + 1 := by
    rw [hw.out.er]; unfold erUp; split
    · rename_i h; rw [← h]; omega
    · omega
  have hok' : ({ f' with down := false } : Fl).Ok (300 + 300 * ((k + 1 : Nat) : Int)) := Fl.Ok.more (k := 300 + 300 * k + 300) hok.out (by push_cast; omega)
  have mk : ∀ b' j M, M ≤ k + 1 + 1 → Cur f' j M b' → WInv { f' with down := false } (k + 1) b' := fun b' j M hM hc => ⟨rfl, hw.out.wear.trans h2, by push_cast; exact e0, by push_cast; exact e1, hok', j, M, hM, hc.congr rfl⟩
  by_cases h0 : r = 0
  · exact ⟨c, .inl ⟨h0, rfl⟩, mk c _ _ (by omega) (hw.out.yes h0).1⟩
  · obtain ⟨q1, _, _, _, q2⟩ := hw.out.no h0
    rcases q2 with q2 | q2
    · exact ⟨b, .inr ⟨q1, .inr rfl⟩, mk b _ _ (by omega) q2⟩
    · exact ⟨c, .inr ⟨q1, .inl rfl⟩, mk c _ _ (by omega) q2⟩
set_option maxRecDepth 100000 in
set_option maxHeartbeats 12800000 in
theorem whole_walk (A : Option Addr) (n cap : Nat) (ys : List FCall) (w : World) (hl : FCalls w A n ys) :
    Calls Try.prog 4 #[.slice A n cap] w fun e w' => e = .returned (.bool true) ∧ Below w.heap.size w w' := by
  have HL := Lib.hid hl
  have HN := Lib.hid hl.1
  clear hl
  go_enter Try.func4, Try.ntmps4
  go_wp2_with fail
  refine (new_any 100 w ⟨by omega, by omega⟩).mono ?_
  rintro e w1 ⟨g, rfl, hg, hf, hb1⟩
  have hw0 := cwrite_void (c := []) (cap := 0) hf.out (Row.nil w1 w1.heap.size none) (fun h => absurd h (by omega)) (Nat.le_refl _) (by omega) rfl (new_ok 100 (by decide)) (by omega) (new_void 100) (show (0 : Int) < 100 by decide) rfl
  have HW0 := Lib.hid hw0
  have HB1 : Hid (Below w.heap.size w w1) := hb1
  have HE0 : Hid (((flNew 100).fill 0 3584).wear = 100 ∧ (∀ s, ((flNew 100).fill 0 3584).er s = 0) ∧ ((flNew 100).fill 0 3584).down = false) := ⟨rfl, fun _ => rfl, rfl⟩
  generalize (flNew 100).fill 0 3584 = f0 at *
  clear hw0 hb1 hf
  go_wp2_with fail
  refine HW0.out.mono ?_
  rintro e w2 ⟨f2, rfl, hd2, hw2, hok2⟩
  obtain ⟨q1, q2, _, _⟩ := hw2.out.yes rfl
  have HI2 : Hid (WInv { f2 with down := false } 0 []) := by
    refine ⟨rfl, hw2.out.wear.trans HE0.out.1, ?_, ?_, hok2.out.more (by omega), 0, 1, by omega, q1.congr rfl⟩
    · show f2.er 0 ≤ _; rw [hw2.out.er]; unfold erUp; rw [if_pos rfl, HE0.out.2.1]; decide
    · show f2.er 1 ≤ _; rw [hw2.out.er]; unfold erUp; rw [if_neg (by omega), HE0.out.2.1]; decide
  have he2 : ({ f2 with down := false } : Fl) = f2 := by
    have hd : f2.down = false := q2.trans HE0.out.2.2
    cases f2; simp at hd ⊢; exact hd
  rw [he2] at HI2
  have HB2 : Hid (Below w.heap.size w w2) := below_done HB1.out hd2.out HB1.out.size hg
  have HF2 : Hid (FlAt w2 g f2) := hd2.out.1
  clear hd2 hw2 hok2 q1 q2 he2 HW0 HB1 HE0
  go_wp2_with fail
  go_loopw [4, 19] (fun v i wr => ∃ (k : Nat) (f : Fl) (wA : Option Addr) (wn wc : Nat) (was : List UInt8), k ≤ n ∧ k ≤ 40 ∧ i = .int .i64 k ∧ v = .slice wA wn wc ∧ Hid (FlAt wr g f) ∧ Hid (WInv f k was) ∧ Hid (Below w.heap.size w wr) ∧ Hid (Row wr wr.heap.size wA wn (bv was)) ∧ Hid (0 < wn → ∀ b o, wA = some ⟨b, o, none⟩ → b ≠ g)) (fun _ i _ => n - (intOf i).toNat)
  case atStart => exact ⟨0, f2, none, 0, 0, [], by omega, by omega, rfl, rfl, HF2, HI2, HB2, Row.nil _ _ _, fun h => absurd h (by omega)⟩
  case round =>
    clear HF2 HI2 HB2
    obtain ⟨k, f, wA, wn, wc, was, hk, hk40, rfl, rfl, hf, hi, hb, hwa, hwg⟩ := hrel
    have hsz := hb.out.size
    by_cases hlt : k < n
    · obtain ⟨b, o, y, rfl, hbl, hym, hyk, hyg, c0, c1, c2, c3⟩ := HL.out.at_ hb.out hlt
      obtain ⟨d, a, m, yA, ym, yc, yl⟩ := y
      dsimp only at c0 c1 c2 c3
      have HYR : Hid (Row w w.heap.size yA ym (bv yl)) := (HL.out.2.1 _ hym).1
      have hyg0 := HL.out.2.1 _ hym
      have ha1 := hyg0.2.2.2.2.1.1
      have ha2 := hyg0.2.2.2.2.1.2
      have hm1 := hyg0.2.2.2.2.2.1
      have hm2 := hyg0.2.2.2.2.2.2
      dsimp only at ha1 ha2 hm1 hm2
      clear hyg hym hyk hyg0
      by_cases h40 : k = 40
      · subst h40
        clear hf hi hwa hwg
        go_wp2_with fail
        refine (awake17_any _).mono ?_
        rintro e w9 ⟨rfl, hb9⟩
        go_wp2_with fail
        go_ret
        exact ⟨rfl, (hb.out.alloc hb.out.size _).trans (hb9.mono (by simp; omega))⟩
      have hk39 : k < 40 := by omega
      by_cases h245 : 245 < ym
      · clear hf hi hwa hwg
        go_wp2_with fail
        refine (awake17_any _).mono ?_
        rintro e w9 ⟨rfl, hb9⟩
        go_wp2_with fail
        go_ret
        exact ⟨rfl, (hb.out.alloc hb.out.size _).trans (hb9.mono (by simp; omega))⟩
      have hym245 : ym ≤ 245 := by omega
      have HAG : Hid (0 < ym → ∀ b o, yA = some ⟨b, o, none⟩ → b ≠ g) := by
        intro h0 b' o' e
        obtain ⟨b2, o2, e2, hb2, _⟩ := HYR.out.2 h0
        have e3 := e2.symm.trans e
        injection e3 with e3
        injection e3 with e3
        omega
      have HWG := Lib.hid hwg.out
      obtain ⟨W0, hW0⟩ : ∃ W0, wr.alloc (.cells #[.int .i64 d, .int .i64 a, .int .i64 m, .slice yA ym yc] 29) = W0 := ⟨_, rfl⟩
      have hbW : Below wr.heap.size wr W0 := by rw [← hW0]; exact (Below.refl _ _).alloc (Nat.le_refl _) _
      have hxW : W0.heap[wr.heap.size]? = some (.cells #[.int .i64 d, .int .i64 a, .int .i64 m, .slice yA ym yc] 29 (0, 0)) := by rw [← hW0]; exact heap_alloc_new wr _
      obtain ⟨gc, hgc⟩ : ∃ gc, wr.heap.size = gc := ⟨_, rfl⟩
      have HW0 := Lib.hid hW0
      have HBW := Lib.hid (hb.out.trans (hbW.mono hsz))
      have HF0 := Lib.hid (hf.out.below hbW)
      have HX := Lib.hid hxW
      have HWA0 : Hid (Row W0 W0.heap.size wA wn (bv was)) := (hwa.out.below hbW).more hbW.size
      have hgg : g < wr.heap.size := hf.out.lt
      clear hW0 hbW hxW hf hb hwa hwg h40 h245
      go_upto_region 8 with fail
      rw [HW0.out]
      rw [hgc] at HX hgg
      clear HW0 c0 c1 c2 c3 hsz
      have hgc0 : gc < W0.heap.size := (Array.getElem?_eq_some_iff.1 HX.out).1
      have c1 : W0.cell? ⟨gc, 1, none⟩ = some (.int .i64 a) := by rw [cell_of_row _ gc 1 _ _ _ HX.out]; rfl
      have c2 : W0.cell? ⟨gc, 2, none⟩ = some (.int .i64 m) := by rw [cell_of_row _ gc 2 _ _ _ HX.out]; rfl
      have c3 : W0.cell? ⟨gc, 3, none⟩ = some (.slice yA ym yc) := by rw [cell_of_row _ gc 3 _ _ _ HX.out]; rfl
      by_cases ha : 0 ≤ a
      · obtain ⟨p, hp⟩ : ∃ p : Nat, a = p := ⟨a.toNat, by omega⟩
        subst hp
        have hmod : ((p : Int)).tmod 300 = ((p % 300 : Nat) : Int) := by rw [Int.tmod_eq_emod_of_nonneg (by omega)]; omega
        have hmod2 : ((p : Int)) % 300 = ((p % 300 : Nat) : Int) := by omega
        have hp300 : p % 300 < 300 := Nat.mod_lt _ (by omega)
        have HMOD := Lib.hid hmod
        have HMOD2 := Lib.hid hmod2
        obtain ⟨q, hq⟩ : ∃ q, p % 300 = q := ⟨_, rfl⟩
        rw [hq] at HMOD HMOD2 hp300
        clear hmod hmod2 hq
        go_upto_region 12 with fail
        go_wp2_with (first | rw [HMOD.out] | rw [HMOD2.out])
        refine (fuse_any g q m f W0 HF0.out).mono ?_
        rintro e w2 ⟨rfl, hd2⟩
        have HI1 := Lib.hid (hi.out.fuse (decide (0 ≤ (q : Int))) q m ⟨by omega, by omega⟩)
        have HF1 : Hid (FlAt w2 g _) := hd2.out.1
        have HB2 : Hid (Below w.heap.size w w2) := below_done HBW.out hd2.out HBW.out.size hg
        have HX2 := Lib.hid ((hd2.out.2.block gc hgc0 (by intro e; injection e with e; omega)).trans HX.out)
        have HWA1 : Hid (Row w2 w2.heap.size wA wn (bv was)) := (HWA0.out.apart HWG.out hd2.out.2 (Nat.le_refl _)).more hd2.out.2.size
        generalize ({ f with there := decide (0 ≤ (q : Int)), left := (q : Int), torn := m } : Fl) = f1 at *
        clear hd2 hi HF0 HBW HX HWA0 c1 c2 c3
        have c3 : w2.cell? ⟨gc, 3, none⟩ = some (.slice yA ym yc) := by rw [cell_of_row _ gc 3 _ _ _ HX2.out]; rfl
        have HWR := Lib.hid (whole_step (cap := yc) HF1.out (HYR.out.below HB2.out) HAG.out HB2.out.size (by omega) hk39 HI1.out)
        go_wp2_with fail
        refine HWR.out.mono ?_
        rintro e w3 ⟨r, f3, rfl, hd3, hres⟩
        have HB3 : Hid (Below w.heap.size w w3) := below_done HB2.out hd3.out HB2.out.size hg
        have HF3 : Hid (FlAt w3 g f3) := hd3.out.1
        have HWA3 : Hid (Row w3 w3.heap.size wA wn (bv was)) := (HWA1.out.apart HWG.out hd3.out.2 (Nat.le_refl _)).more hd3.out.2.size
        clear hd3 HWR c3 HF1 HI1 HWA1 HB2 HX2
        go_wp2_with fail
        refine (start_any g f3 w3 HF3.out).mono ?_
        rintro e w4 ⟨rfl, hd4⟩
        obtain ⟨b', hb', hi'⟩ := hres.out
        have HB4 : Hid (Below w.heap.size w w4) := below_done HB3.out hd4.out HB3.out.size hg
        have HF4 : Hid (FlAt w4 g { f3 with down := false }) := hd4.out.1
        have HI4 : Hid (WInv { f3 with down := false } (k + 1) b') := hi'
        have HWA4 : Hid (Row w4 w4.heap.size wA wn (bv was)) := (HWA3.out.apart HWG.out hd4.out.2 (Nat.le_refl _)).more hd4.out.2.size
        have HB' := Lib.hid hb'
        generalize ({ f3 with down := false } : Fl) = f4 at *
        have HC1 := Lib.hid (fun W (hW : FlAt W g f4) => cread_any g f4 b' W hW HI4.out.down HI4.out.has)
        clear hd4 hres HB3 HF3 HWA3 hb' hi'
        go_wp2_with fail
        refine (HC1.out w4 HF4.out).mono ?_
        rintro e w5 ⟨A5, n5, c5, rfl, hn5, hnc5, hr5, hA5, hb5⟩
        have HB5 : Hid (Below w.heap.size w w5) := HB4.out.trans (hb5.out.mono HB4.out.size)
        have HF5 : Hid (FlAt w5 g f4) := HF4.out.below hb5.out
        have HWA5 : Hid (Row w5 w4.heap.size wA wn (bv was)) := HWA4.out.below hb5.out
        have hs45 : w4.heap.size ≤ w5.heap.size := hb5.out.size
        have HA5 : Hid (0 < n5 → ∀ b o, A5 = some ⟨b, o, none⟩ → b ≠ g) := fun h0 b o e => by have h1 := hA5.out b o e h0; have h2 := HF4.out.lt; omega
        clear hb5 hA5 hn5 HB4 HF4 HWA4
        go_wp2_with fail
        refine (HC1.out w5 HF5.out).mono ?_
        rintro e w6 ⟨A6, n6, c6, rfl, hn6, hnc6, hr6, hA6, hb6⟩
        have HB6 : Hid (Below w.heap.size w w6) := HB5.out.trans (hb6.out.mono HB5.out.size)
        have HF6 : Hid (FlAt w6 g f4) := HF5.out.below hb6.out
        have HR5 : Hid (Row w6 w6.heap.size A5 n5 (bv b')) := (hr5.out.below hb6.out).more hb6.out.size
        have hWA6 : Row w6 w6.heap.size wA wn (bv was) := (HWA5.out.below (hb6.out.mono hs45)).more (by have := hb6.out.size; omega)
        have hk1 := run_string_row (P := Try.prog) HR5.out c5 27 9 5 Try.underlying27 Try.underlying5 Try.underlying9
        have hk2 := run_string_row (P := Try.prog) hr6.out c6 27 9 5 Try.underlying27 Try.underlying5 Try.underlying9
        have hk3 := run_string_row (P := Try.prog) hWA6 wc 27 9 5 Try.underlying27 Try.underlying5 Try.underlying9
        have hk4 := run_string_row (P := Try.prog) (HYR.out.below HB6.out) yc 27 9 5 Try.underlying27 Try.underlying5 Try.underlying9
        clear hb6 hA6 hn6 HB5 HF5 HWA5 hWA6 HC1 hr5 hr6 hs45 hnc6
        go_upto_region 17 with fail
        rcases HB'.out with ⟨h1, h2⟩ | ⟨h1, h2 | h2⟩
        · subst h1 h2
          by_cases hcw : b' = was
          · subst hcw
            clear HB'
            go_wp2_with fail
            go_roundw
            case rel => exact ⟨k + 1, f4, A5, n5, c5, _, by omega, by omega, by go_num, rfl, HF6, HI4, HB6, HR5, HA5⟩
            case measure => simp [intOf]; omega
          · clear HB'
            go_wp2_with fail
            go_roundw
            case rel => exact ⟨k + 1, f4, A5, n5, c5, _, by omega, by omega, by go_num, rfl, HF6, HI4, HB6, HR5, HA5⟩
            case measure => simp [intOf]; omega
        · subst h1 h2
          by_cases hcw : b' = was
          · subst hcw
            clear HB'
            go_wp2_with fail
            go_roundw
            case rel => exact ⟨k + 1, f4, A5, n5, c5, _, by omega, by omega, by go_num, rfl, HF6, HI4, HB6, HR5, HA5⟩
            case measure => simp [intOf]; omega
          · clear HB'
            go_wp2_with fail
            go_roundw
            case rel => exact ⟨k + 1, f4, A5, n5, c5, _, by omega, by omega, by go_num, rfl, HF6, HI4, HB6, HR5, HA5⟩
            case measure => simp [intOf]; omega
        · subst h1 h2
          clear HB'
          go_wp2_with fail
          go_roundw
          case rel => exact ⟨k + 1, f4, A5, n5, c5, _, by omega, by omega, by go_num, rfl, HF6, HI4, HB6, HR5, HA5⟩
          case measure => simp [intOf]; omega
      · have HF1 : Hid (FlAt W0 g f) := HF0
        have HI1 : Hid (WInv f k was) := hi
        have HB2 := HBW
        have HX2 := HX
        have HWA1 := HWA0
        clear hi HF0 HBW HX HWA0
        go_upto_region 13 with fail
        clear c1 c2 c3
        have c3 : W0.cell? ⟨gc, 3, none⟩ = some (.slice yA ym yc) := by rw [cell_of_row _ gc 3 _ _ _ HX2.out]; rfl
        have HWR := Lib.hid (whole_step (cap := yc) HF1.out (HYR.out.below HB2.out) HAG.out HB2.out.size (by omega) hk39 HI1.out)
        go_wp2_with fail
        refine HWR.out.mono ?_
        rintro e w3 ⟨r, f3, rfl, hd3, hres⟩
        have HB3 : Hid (Below w.heap.size w w3) := below_done HB2.out hd3.out HB2.out.size hg
        have HF3 : Hid (FlAt w3 g f3) := hd3.out.1
        have HWA3 : Hid (Row w3 w3.heap.size wA wn (bv was)) := (HWA1.out.apart HWG.out hd3.out.2 (Nat.le_refl _)).more hd3.out.2.size
        clear hd3 HWR c3 HF1 HI1 HWA1 HB2 HX2
        go_wp2_with fail
        refine (start_any g f3 w3 HF3.out).mono ?_
        rintro e w4 ⟨rfl, hd4⟩
        obtain ⟨b', hb', hi'⟩ := hres.out
        have HB4 : Hid (Below w.heap.size w w4) := below_done HB3.out hd4.out HB3.out.size hg
        have HF4 : Hid (FlAt w4 g { f3 with down := false }) := hd4.out.1
        have HI4 : Hid (WInv { f3 with down := false } (k + 1) b') := hi'
        have HWA4 : Hid (Row w4 w4.heap.size wA wn (bv was)) := (HWA3.out.apart HWG.out hd4.out.2 (Nat.le_refl _)).more hd4.out.2.size
        have HB' := Lib.hid hb'
        generalize ({ f3 with down := false } : Fl) = f4 at *
        have HC1 := Lib.hid (fun W (hW : FlAt W g f4) => cread_any g f4 b' W hW HI4.out.down HI4.out.has)
        clear hd4 hres HB3 HF3 HWA3 hb' hi'
        go_wp2_with fail
        refine (HC1.out w4 HF4.out).mono ?_
        rintro e w5 ⟨A5, n5, c5, rfl, hn5, hnc5, hr5, hA5, hb5⟩
        have HB5 : Hid (Below w.heap.size w w5) := HB4.out.trans (hb5.out.mono HB4.out.size)
        have HF5 : Hid (FlAt w5 g f4) := HF4.out.below hb5.out
        have HWA5 : Hid (Row w5 w4.heap.size wA wn (bv was)) := HWA4.out.below hb5.out
        have hs45 : w4.heap.size ≤ w5.heap.size := hb5.out.size
        have HA5 : Hid (0 < n5 → ∀ b o, A5 = some ⟨b, o, none⟩ → b ≠ g) := fun h0 b o e => by have h1 := hA5.out b o e h0; have h2 := HF4.out.lt; omega
        clear hb5 hA5 hn5 HB4 HF4 HWA4
        go_wp2_with fail
        refine (HC1.out w5 HF5.out).mono ?_
        rintro e w6 ⟨A6, n6, c6, rfl, hn6, hnc6, hr6, hA6, hb6⟩
        have HB6 : Hid (Below w.heap.size w w6) := HB5.out.trans (hb6.out.mono HB5.out.size)
        have HF6 : Hid (FlAt w6 g f4) := HF5.out.below hb6.out
        have HR5 : Hid (Row w6 w6.heap.size A5 n5 (bv b')) := (hr5.out.below hb6.out).more hb6.out.size
        have hWA6 : Row w6 w6.heap.size wA wn (bv was) := (HWA5.out.below (hb6.out.mono hs45)).more (by have := hb6.out.size; omega)
        have hk1 := run_string_row (P := Try.prog) HR5.out c5 27 9 5 Try.underlying27 Try.underlying5 Try.underlying9
        have hk2 := run_string_row (P := Try.prog) hr6.out c6 27 9 5 Try.underlying27 Try.underlying5 Try.underlying9
        have hk3 := run_string_row (P := Try.prog) hWA6 wc 27 9 5 Try.underlying27 Try.underlying5 Try.underlying9
        have hk4 := run_string_row (P := Try.prog) (HYR.out.below HB6.out) yc 27 9 5 Try.underlying27 Try.underlying5 Try.underlying9
        clear hb6 hA6 hn6 HB5 HF5 HWA5 hWA6 HC1 hr5 hr6 hs45 hnc6
        go_upto_region 17 with fail
        rcases HB'.out with ⟨h1, h2⟩ | ⟨h1, h2 | h2⟩
        · subst h1 h2
          by_cases hcw : b' = was
          · subst hcw
            clear HB'
            go_wp2_with fail
            go_roundw
            case rel => exact ⟨k + 1, f4, A5, n5, c5, _, by omega, by omega, by go_num, rfl, HF6, HI4, HB6, HR5, HA5⟩
            case measure => simp [intOf]; omega
          · clear HB'
            go_wp2_with fail
            go_roundw
            case rel => exact ⟨k + 1, f4, A5, n5, c5, _, by omega, by omega, by go_num, rfl, HF6, HI4, HB6, HR5, HA5⟩
            case measure => simp [intOf]; omega
        · subst h1 h2
          by_cases hcw : b' = was
          · subst hcw
            clear HB'
            go_wp2_with fail
            go_roundw
            case rel => exact ⟨k + 1, f4, A5, n5, c5, _, by omega, by omega, by go_num, rfl, HF6, HI4, HB6, HR5, HA5⟩
            case measure => simp [intOf]; omega
          · clear HB'
            go_wp2_with fail
            go_roundw
            case rel => exact ⟨k + 1, f4, A5, n5, c5, _, by omega, by omega, by go_num, rfl, HF6, HI4, HB6, HR5, HA5⟩
            case measure => simp [intOf]; omega
        · subst h1 h2
          clear HB'
          go_wp2_with fail
          go_roundw
          case rel => exact ⟨k + 1, f4, A5, n5, c5, _, by omega, by omega, by go_num, rfl, HF6, HI4, HB6, HR5, HA5⟩
          case measure => simp [intOf]; omega
    · obtain rfl : n = k := by omega
      clear hf hi hwa hwg
      go_wp2_with fail
      refine (awake17_any _).mono ?_
      rintro e w9 ⟨rfl, hb9⟩
      go_wp2_with fail
      go_ret
      exact ⟨rfl, hb.out.trans (hb9.mono hb.out.size)⟩
end Go.Proofs.Ytmlmpjokmbgmcaa
