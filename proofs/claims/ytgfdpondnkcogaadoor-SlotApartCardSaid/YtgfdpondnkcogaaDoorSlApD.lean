/- SlotApart: a further walk. -/
import Derived.Test.YtgfdpondnkcogaaDoorSlApW
namespace Go.Proofs.YtgfdpondnkcogaaDoor
open Go.RowKit Go.ChangeShapes Go.WideShapes Go.ChangeAt Sh
set_option maxRecDepth 100000 in
set_option maxHeartbeats 12800000 in
theorem apart_walk1b (x : Int) (hx : wrap64 ((IntKind.u64.wrap x).tmod 2) = 1) (FA : Option Addr) (nf fcap : Nat) (fst : List UInt8) (IA : Option Addr) (ni icap : Nat) (img : List UInt8) (w : World) (ht : Tab w) (hl : Row w w.heap.size FA nf (bv fst)) (hl2 : Row w w.heap.size IA ni (bv img))
    (hf1 : 1 ≤ nf) (hf2 : nf ≤ 512) (hi1 : 1 ≤ ni) (hi2 : ni ≤ 512) (hic : ni ≤ icap) (hicm : icap ≤ 9223372036854775807) (hmn : 256 < ni) :
    Calls Tryd.prog 7 #[.int .i64 x, .slice FA nf fcap, .slice IA ni icap] w fun e w' => e = .returned (.bool true) ∧ Below w.heap.size w w' := by
  have HT := Lib.hid ht
  have HF := Lib.hid hl
  have HI := Lib.hid hl2
  have HFL := Lib.hid hl.blen
  have HIL := Lib.hid hl2.blen
  have HK := Lib.hid hx
  have hf1' : ¬ ((nf : Int) < 1) := by omega
  have hi1' : ¬ ((ni : Int) < 1) := by omega
  clear ht hl hl2 hx
  go_enter Tryd.func7, Tryd.ntmps7
  go_wp2_with (rw [HK.out])
  refine (new_any 1 w ⟨by omega, by omega⟩).mono ?_
  rintro e w1 ⟨g, rfl, hg, hf, hb⟩
  have HQ0 : Hid (((flNew 1).fill 0 3584).down = false ∧ ((flNew 1).fill 0 3584).there = false ∧ ((flNew 1).fill 0 3584).wear = 1 ∧ (∀ j, ((flNew 1).fill 0 3584).er j = 0) ∧ ((flNew 1).fill 0 3584).Ok 0 ∧ (∀ s, s < 14 → nonB ((flNew 1).fill 0 3584) s = 0)) :=
    ⟨rfl, rfl, rfl, fun s => rfl, new_ok2 1 (by decide), fun s hs => new_nonB 1 _ hs⟩
  generalize (flNew 1).fill 0 3584 = f0 at *
  have HB1 : Hid (Below w.heap.size w w1) := hb
  have HF1 : Hid (FlAt w1 g f0) := hf
  have HA : ∀ (A : Option Addr) (n : Nat) (l : List UInt8), Row w w.heap.size A n (bv l) → 0 < n → ∀ b o, A = some ⟨b, o, none⟩ → b ≠ g := by
    intro A n l hr h0 b' o' e
    obtain ⟨b2, o2, e2, hb2, _⟩ := hr.2 h0
    have e3 := e2.symm.trans e
    injection e3 with e3
    injection e3 with e3
    omega
  have HAF := Lib.hid (HA _ _ _ HF.out)
  have HAI := Lib.hid (HA _ _ _ HI.out)
  -- the states of flash, one behind another
  obtain ⟨f1, he1, hs1⟩ := swrite_free2 f0 4 fst (by have := HFL.out; omega) HQ0.out.2.1 (.inl (HQ0.out.2.2.2.2.2 _ (by omega))) (.inl (HQ0.out.2.2.2.2.2 _ (by omega)))
  have hok1 := HQ0.out.2.2.2.2.1.swrite 4 fst (by have := HFL.out; omega)
  rw [he1] at hok1
  have HQ1 : Hid (f1.down = false ∧ f1.there = false ∧ f1.wear = 1 ∧ (∀ j, f1.er j = 0) ∧ f1.Ok 514) := by
    refine ⟨hs1.down.trans HQ0.out.1, hs1.there, hs1.wear.trans HQ0.out.2.2.1, fun j => ?_, hok1.more (by omega)⟩
    rw [hs1.er, HQ0.out.2.2.2.1, HQ0.out.2.2.2.2.2 4 (by omega), HQ0.out.2.2.2.2.2 (4 + 1) (by omega)]
    split <;> (try split) <;> rfl
  have HN1 : Hid (nonB f1 2 = 0 ∧ nonB f1 (2 + 1) = 0) := ⟨(outside_nonB hs1.out (by omega)).trans (HQ0.out.2.2.2.2.2 _ (by omega)), (outside_nonB hs1.out (by omega)).trans (HQ0.out.2.2.2.2.2 _ (by omega))⟩
  have HW1 := Lib.hid (fun W (hW : FlAt W g f0) hr => swrite_any g 1 4 w.heap.size nf fcap FA fst f0 W 0 hW hr HAF.out)
  obtain ⟨f2, he2, hbs2, hk2, _, hd2, ht2⟩ : ∃ f', f1.prog (256 * 4) [0] = (f', 0) ∧ f'.bs = bsAll f1.bs (256 * 4) [0] ∧ Kept f1 f' ∧ True ∧ f'.down = f1.down ∧ f'.there = false := by
    rcases prog_cases [0] f1 (256 * 4) with ⟨f', e, q1, q2, _, q4, q5⟩ | ⟨q0, _⟩
    · exact ⟨f', e, q1, q2, trivial, q4, q5 HQ1.out.2.1⟩
    · rw [HQ1.out.2.1] at q0; cases q0
  have hok2 := HQ1.out.2.2.2.2.prog [0] (256 * 4)
  rw [he2] at hok2
  have HN2 : Hid (nonB f2 4 = 1 ∧ nonB f2 2 = 0 ∧ nonB f2 (2 + 1) = 0) := by
    have ho : ∀ s, s < 14 → s ≠ 4 → nonB f2 s = nonB f1 s := by
      intro s hs hne
      have : outside f1 f2 (256 * 4) 256 := by
        intro i hi
        rw [hbs2]; unfold bsAll
        rw [if_neg]
        simp only [List.length_cons, List.length_nil]; omega
      exact outside_nonB this (by omega)
    refine ⟨?_, (ho _ (by omega) (by omega)).trans HN1.out.1, (ho _ (by omega) (by omega)).trans HN1.out.2⟩
    unfold nonB
    rw [if_neg]
    intro h
    have := sub_ff h 0 (by omega)
    rw [hbs2] at this
    unfold bsAll at this
    rw [if_pos (by simp only [List.length_cons, List.length_nil]; omega)] at this
    have e0 : f1.bs (256 * 4 + 0) &&& [(0 : UInt8)].getD (256 * 4 + 0 - 256 * 4) 0 = 0 := by
      show f1.bs _ &&& 0 = 0
      apply UInt8.toNat.inj
      simp
    rw [e0] at this
    exact absurd this (by decide)
  have HQ2 : Hid (f2.down = false ∧ f2.there = false ∧ f2.wear = 1 ∧ (∀ j, f2.er j = 0) ∧ f2.Ok 515) := ⟨hd2.trans HQ1.out.1, ht2, hk2.wear.trans HQ1.out.2.2.1, fun j => by rw [hk2.er]; exact HQ1.out.2.2.2.1 j, hok2.more (by simp)⟩
  obtain ⟨f3, he3, hs3⟩ := swrite_free2 f2 4 img (by have := HIL.out; omega) HQ2.out.2.1 (.inr (by rw [HQ2.out.2.2.1, HQ2.out.2.2.2.1]; decide)) (.inr (by rw [HQ2.out.2.2.1, HQ2.out.2.2.2.1]; decide))
  have hok3 := HQ2.out.2.2.2.2.swrite 4 img (by have := HIL.out; omega)
  rw [he3] at hok3
  have HQ3 : Hid (f3.down = false ∧ f3.there = false ∧ f3.wear = 1 ∧ f3.er 4 = 1 ∧ (f3.er (4 + 1) = 0 ∨ f3.er (4 + 1) = 1) ∧ f3.er 2 = 0 ∧ f3.er (2 + 1) = 0 ∧ f3.Ok 1029 ∧ nonB f3 2 = 0 ∧ nonB f3 (2 + 1) = 0 ∧ f3.sub (256 * 4) img.length = img ∧ (∀ i, img.length ≤ i → i < 512 → f3.bs (256 * 4 + i) = 255)) := by
    refine ⟨hs3.down.trans HQ2.out.1, hs3.there, hs3.wear.trans HQ2.out.2.2.1, ?_, ?_, ?_, ?_, hok3.more (by omega), (outside_nonB hs3.out (by omega)).trans HN2.out.2.1, (outside_nonB hs3.out (by omega)).trans HN2.out.2.2, hs3.sub, hs3.rest⟩
    · rw [hs3.er, HQ2.out.2.2.2.1, if_pos rfl, HN2.out.1]; rfl
    · rw [hs3.er, HQ2.out.2.2.2.1, if_neg (by omega), if_pos rfl]; have := nonB_or f2 (4 + 1); omega
    · rw [hs3.er, HQ2.out.2.2.2.1, if_neg (by omega), if_neg (by omega)]; rfl
    · rw [hs3.er, HQ2.out.2.2.2.1, if_neg (by omega), if_neg (by omega)]; rfl
  -- the second write: done, or a sector is worn
  obtain ⟨ry, f4, he4, HQ4⟩ : ∃ ry f4, f3.swrite 4 img = (f4, ry) ∧ Hid (f4.down = false ∧ f4.there = false ∧ f4.wear = 1 ∧ f4.er 2 = 0 ∧ f4.er (2 + 1) = 0 ∧ f4.Ok 1543 ∧ nonB f4 2 = 0 ∧ nonB f4 (2 + 1) = 0 ∧ f4.sub (256 * 4) ni = img ∧ (nonB f3 4 = 1 → ry = 10)) := by
    obtain ⟨c1, c2, c3, c4, c5, c6, c7, c8, c9, c10, c11, c12⟩ := HQ3.out
    have c11' : f3.sub (256 * 4) ni = img := by have h := HIL.out; rw [← h]; exact c11
    rcases nonB_or f3 4 with h0 | h1
    · rcases nonB_or f3 (4 + 1) with g0 | g1
      · obtain ⟨f4, e4, s4⟩ := swrite_free2 f3 4 img (by have := HIL.out; omega) c2 (.inl h0) (.inl g0)
        have hok4 := c8.swrite 4 img (by have := HIL.out; omega)
        rw [e4] at hok4
        refine ⟨0, f4, e4, s4.down.trans c1, s4.there, s4.wear.trans c3, ?_, ?_, hok4.more (by omega), (outside_nonB s4.out (by omega)).trans c9, (outside_nonB s4.out (by omega)).trans c10, by have h := HIL.out; rw [← h]; exact s4.sub, fun h => by omega⟩
        · rw [s4.er, c6, if_neg (by omega), if_neg (by omega)]; rfl
        · rw [s4.er, c7, if_neg (by omega), if_neg (by omega)]; rfl
      · rcases c5 with d0 | d1
        · obtain ⟨f4, e4, s4⟩ := swrite_free2 f3 4 img (by have := HIL.out; omega) c2 (.inl h0) (.inr (by omega))
          have hok4 := c8.swrite 4 img (by have := HIL.out; omega)
          rw [e4] at hok4
          refine ⟨0, f4, e4, s4.down.trans c1, s4.there, s4.wear.trans c3, ?_, ?_, hok4.more (by omega), (outside_nonB s4.out (by omega)).trans c9, (outside_nonB s4.out (by omega)).trans c10, by have h := HIL.out; rw [← h]; exact s4.sub, fun h => by omega⟩
          · rw [s4.er, c6, if_neg (by omega), if_neg (by omega)]; rfl
          · rw [s4.er, c7, if_neg (by omega), if_neg (by omega)]; rfl
        · exact ⟨10, f3, swrite_worn f3 4 img (.inr ⟨h0, g1, by omega⟩), c1, c2, c3, c6, c7, c8.more (by omega), c9, c10, c11', fun _ => rfl⟩
    · exact ⟨10, f3, swrite_worn f3 4 img (.inl ⟨h1, by omega⟩), c1, c2, c3, c6, c7, c8.more (by omega), c9, c10, c11', fun _ => rfl⟩
  -- the other slot
  obtain ⟨f5, he5, hs5⟩ := swrite_free2 f4 2 img (by have := HIL.out; omega) HQ4.out.2.1 (.inl HQ4.out.2.2.2.2.2.2.1) (.inl HQ4.out.2.2.2.2.2.2.2.1)
  have HOUT : Hid (outside f4 f5 (256 * 2) 512) := hs5.out
  -- what the calls tell
  have HC1 := Lib.hid (fun W (hB : Below w.heap.size w W) (hW : FlAt W g f0) => swrite_any g 1 4 w.heap.size nf fcap FA fst f0 W 0 hW (HF.out.below hB) HAF.out hB.size HQ0.out.1 (.inr rfl) rfl hf1 hf2 HQ0.out.2.2.2.2.1 (by omega))
  rw [he1] at HC1
  have HC3 := Lib.hid (fun W (hB : Below w.heap.size w W) (hW : FlAt W g f2) => swrite_any g 1 4 w.heap.size ni icap IA img f2 W 515 hW (HI.out.below hB) HAI.out hB.size HQ2.out.1 (.inr rfl) rfl hi1 hi2 HQ2.out.2.2.2.2 (by omega))
  rw [he3] at HC3
  have HC4 := Lib.hid (fun W (hB : Below w.heap.size w W) (hW : FlAt W g f3) => swrite_any g 1 4 w.heap.size ni icap IA img f3 W 1029 hW (HI.out.below hB) HAI.out hB.size HQ3.out.1 (.inr rfl) rfl hi1 hi2 HQ3.out.2.2.2.2.2.2.2.1 (by omega))
  rw [he4] at HC4
  have HC5 := Lib.hid (fun W (hB : Below w.heap.size w W) (hW : FlAt W g f4) => swrite_any g 0 2 w.heap.size ni icap IA img f4 W 1543 hW (HI.out.below hB) HAI.out hB.size HQ4.out.1 (.inl rfl) rfl hi1 hi2 HQ4.out.2.2.2.2.2.1 (by omega))
  rw [he5] at HC5
  have HRC := Lib.hid (fun W (hW : FlAt W g f4) => sread_any g 1 4 ni f4 W hW HQ4.out.1 (.inr rfl) rfl hi2)
  rw [HQ4.out.2.2.2.2.2.2.2.2.1] at HRC
  have HRY : Hid (nonB f3 4 = 1 → ry = 10) := HQ4.out.2.2.2.2.2.2.2.2.2
  have HBL : Hid (∀ i, i < 256 → f3.bs (256 * 4 + i) = img.getD i 255) := by
    intro i hi
    by_cases h : i < img.length
    · have h1 : (f3.sub (256 * 4) img.length)[i]'(by rw [Fl.sub_length]; exact h) = img[i] := by simp only [HQ3.out.2.2.2.2.2.2.2.2.2.2.1]
      simp only [Fl.sub, List.getElem_map, List.getElem_range] at h1
      rw [h1]; simp [List.getD, h]
    · rw [HQ3.out.2.2.2.2.2.2.2.2.2.2.2 i (by omega) (by omega)]; simp [List.getD, h]
  have HD1 := Lib.hid (And.intro HQ1.out.1 HQ1.out.2.2.2.2)
  have HE2 := Lib.hid he2
  clear hb hf HA he1 hs1 hok1 HW1 he2 hbs2 hk2 hd2 ht2 hok2 he3 hs3 hok3 he4 he5 hs5 HQ0 HQ1 HN1 HN2 HQ2 HQ3 HQ4
  go_wp2_with fail
  refine (HC1.out w1 HB1.out HF1.out).mono ?_
  rintro e w2 ⟨rfl, hd⟩
  have HB2 : Hid (Below w.heap.size w w2) := below_done2 HB1.out hd.out HB1.out.size hg
  have HF2 : Hid (FlAt w2 g f1) := hd.out.1
  have hgl := HF2.out.lt
  have hbw : Below w2.heap.size w2 (w2.alloc (.cells #[.int .u8 0] 5)) := (Below.refl _ _).alloc (Nat.le_refl _) _
  have HP := Lib.hid (prog_at (g := g) (a := 256 * 4) (n := 1) (B := w2.heap.size + 1) (cap := 1) (A := some ⟨w2.heap.size, 0, none⟩) (l := [0]) (f := f1) (w := w2.alloc (.cells #[.int .u8 0] 5)) 1024 rfl (HF2.out.below hbw) (row_new w2 #[.int .u8 0] 5 (0, 0)) (by intro _ b o h; injection h with h; injection h with h; omega) (by simp) HD1.out.1 (by omega) (by have := HD1.out.2.1; omega) (by have := HD1.out.2.2.1; omega) HD1.out.2.2.2.1)
  rw [HE2.out] at HP
  have HB2' : Hid (Below w.heap.size w (w2.alloc (.cells #[.int .u8 0] 5))) := HB2.out.trans (hbw.mono HB2.out.size)
  clear hd hbw HF1 HB1 HF2 HC1
  go_wp2_with fail
  refine HP.out.mono ?_
  rintro e w3 ⟨rfl, hd⟩
  have HB3 : Hid (Below w.heap.size w w3) := below_done2 HB2'.out hd.out HB2'.out.size hg
  have HF3 : Hid (FlAt w3 g f2) := hd.out.1
  clear hd HP HB2 HB2' HD1 HE2 hgl
  go_wp2_with fail
  refine (HC3.out w3 HB3.out HF3.out).mono ?_
  rintro e w4 ⟨rfl, hd⟩
  have HB4 : Hid (Below w.heap.size w w4) := below_done2 HB3.out hd.out HB3.out.size hg
  have HF4 : Hid (FlAt w4 g f3) := hd.out.1
  clear hd HB3 HF3 HC3
  go_wp2_with fail
  refine (HC4.out w4 HB4.out HF4.out).mono ?_
  rintro e w5 ⟨rfl, hd⟩
  have HB5 : Hid (Below w.heap.size w w5) := below_done2 HB4.out hd.out HB4.out.size hg
  have HF5 : Hid (FlAt w5 g f4) := hd.out.1
  clear hd HB4 HF4 HC4
  dsimp only
  go_wp2_with fail
  refine (HRC.out w5 HF5.out).mono ?_
  rintro e w6 ⟨A6, n6, c6, rfl, hn6, hown6, hb6⟩
  have HB6 : Hid (Below w.heap.size w w6) := HB5.out.trans (hb6.out.mono HB5.out.size)
  have HF6 : Hid (FlAt w6 g f4) := HF5.out.below hb6.out
  have hk1 := run_string_row (P := Tryd.prog) (Row.of_own hown6.out) c6 28 9 5 Tryd.underlying28 Tryd.underlying5 Tryd.underlying9
  have hk2 := run_string_row (P := Tryd.prog) (HI.out.below HB6.out) icap 28 9 5 Tryd.underlying28 Tryd.underlying5 Tryd.underlying9
  clear hn6 hown6 hb6 HB5 HF5 HRC
  have hmi : ¬ (ni : Int) ≤ 256 := by omega
  have hmj : (256 : Int) ≤ icap := by omega
  have HRI : Hid (Row w6 w.heap.size IA ni (bv img)) := HI.out.below HB6.out
  go_upto_region 14 with fail
  clear hk1 hk2
  go_loop [12, 90] (fun u v => ∃ (k : Nat) (bb : Bool), k ≤ 256 ∧ v = .int .i64 k ∧ u = .bool bb ∧ Hid (bb = true ↔ ∀ j (hj : j < img.length), j < k → img[j] = 255)) (fun _ v => 256 - (intOf v).toNat)
  case atStart => exact ⟨0, true, by omega, rfl, rfl, ⟨fun _ j _ h => absurd h (by omega), fun _ => rfl⟩⟩
  case round =>
    obtain ⟨k, bb, hk, rfl, rfl, hbb⟩ := hrel
    by_cases hlt : k < 256
    · obtain ⟨b, o, rfl, _, hkl, hcell⟩ := HRI.out.byteAt (k := k) (by omega)
      cases bb with
      | false =>
        have hn : Hid (false = true ↔ ∀ j (hj : j < img.length), j < k + 1 → img[j] = 255) := ⟨fun h => absurd h (by decide), fun h => hbb.out.2 (fun j hj hjk => h j hj (by omega))⟩
        clear hbb
        go_wp2_with fail
        go_round
        case rel => exact ⟨k + 1, false, by omega, by go_num, rfl, hn⟩
        case measure => simp [intOf]; omega
      | true =>
        by_cases hx : img[k] = 255
        · have e6 : ((img[k].toNat : Int) == 255) = true := by rw [hx]; rfl
          have hn : Hid (true = true ↔ ∀ j (hj : j < img.length), j < k + 1 → img[j] = 255) := by
            refine ⟨fun _ j hj hjk => ?_, fun _ => rfl⟩
            by_cases e : j < k
            · exact hbb.out.1 rfl j hj e
            · obtain rfl : j = k := by omega
              exact hx
          clear hbb hx
          go_wp2_with fail
          go_round
          case rel => exact ⟨k + 1, true, by omega, by go_num, by rfl, hn⟩
          case measure => simp [intOf]; omega
        · have e6 : ((img[k].toNat : Int) == 255) = false := beq_eq_false_iff_ne.2 fun e => hx (UInt8.toNat.inj (by rw [show img[k].toNat = 255 by omega]; rfl))
          have hn : Hid (false = true ↔ ∀ j (hj : j < img.length), j < k + 1 → img[j] = 255) := ⟨fun h => absurd h (by decide), fun h => absurd (h k hkl (by omega)) hx⟩
          clear hbb hx
          go_wp2_with fail
          go_round
          case rel => exact ⟨k + 1, false, by omega, by go_num, by rfl, hn⟩
          case measure => simp [intOf]; omega
    · obtain rfl : k = 256 := by omega
      cases bb with
      | false =>
        have hry : ry = 10 := by
          apply HRY.out
          rcases nonB_or f3 4 with h0 | h1
          · exfalso
            have := hbb.out.2 (fun j hj hjk => by
              have h1 := sub_ff (nonB_ff.1 h0) j (by omega)
              rw [HBL.out j (by omega)] at h1
              simpa [List.getD, hj] using h1)
            cases this
          · exact h1
        subst hry
        clear hbb
        go_wp2_with fail
        refine (bytes_any g f4 w6 HF6.out).mono ?_
        rintro e w7 ⟨A7, n7, c7, rfl, hn7, hown7, hb7⟩
        obtain rfl : n7 = 3584 := hn7.out.trans (Fl.sub_length _ _ _)
        obtain ⟨gr, cr, hv, hgr, hgr2⟩ := hown7.form (by omega)
        injection hv with e1 e2 e3
        subst e1 e3
        have hcc := own_cap hown7
        have HR7 : Hid (Row w7 w7.heap.size (some ⟨gr, 0, none⟩) 3584 (bv (f4.sub 0 3584))) := Row.of_own hown7
        have HB7 : Hid (Below w.heap.size w w7) := HB6.out.trans (hb7.mono HB6.out.size)
        have HF7 : Hid (FlAt w7 g f4) := HF6.out.below hb7
        have hgg : gr ≠ g := by have := HF6.out.lt; omega
        clear hn7 hown7 hb7 HB6 HF6 hgr hgr2
        go_wp2_with fail
        refine (HC5.out w7 HB7.out HF7.out).mono ?_
        rintro e w9 ⟨rfl, hd⟩
        have HB9 : Hid (Below w.heap.size w w9) := below_done2 HB7.out hd.out HB7.out.size hg
        have HF9 : Hid (FlAt w9 g f5) := hd.out.1
        have HR9 : Hid (Row w9 w9.heap.size (some ⟨gr, 0, none⟩) 3584 (bv (f4.sub 0 3584))) := (HR7.out.apart (fun _ b o e => by injection e with e; injection e with e; omega) hd.out.2 (Nat.le_refl _)).more hd.out.2.size
        clear hd HB7 HF7 HR7 HC5
        go_wp2_with fail
        refine (bytes_any g f5 w9 HF9.out).mono ?_
        rintro e w11 ⟨A11, n11, c11, rfl, hn11, hown11, hb11⟩
        obtain rfl : n11 = 3584 := hn11.out.trans (Fl.sub_length _ _ _)
        obtain ⟨gs, cs, hv, hgs, hgs2⟩ := hown11.form (by omega)
        injection hv with e1 e2 e3
        subst e1 e3
        have hcs := own_cap hown11
        have HS11 : Hid (Row w11 w11.heap.size (some ⟨gs, 0, none⟩) 3584 (bv (f5.sub 0 3584))) := Row.of_own hown11
        have HR11 : Hid (Row w11 w9.heap.size (some ⟨gr, 0, none⟩) 3584 (bv (f4.sub 0 3584))) := HR9.out.below hb11
        have HB11 : Hid (Below w.heap.size w w11) := HB9.out.trans (hb11.mono HB9.out.size)
        have HL11 : Hid (w9.heap.size ≤ w11.heap.size) := hb11.size
        clear hn11 hown11 hb11 HB9 HF9 HR9 hgs hgs2
        go_wp2_with fail
        go_loopw [129] (fun i wr => ∃ k : Nat, k ≤ 14 ∧ i = .int .i64 k ∧ Hid (Below w.heap.size w wr) ∧ Hid (Row wr w9.heap.size (some ⟨gr, 0, none⟩) 3584 (bv (f4.sub 0 3584))) ∧ Hid (Row wr w11.heap.size (some ⟨gs, 0, none⟩) 3584 (bv (f5.sub 0 3584))) ∧ Hid (w9.heap.size ≤ wr.heap.size) ∧ Hid (w11.heap.size ≤ wr.heap.size)) (fun i _ => 14 - (intOf i).toNat)
        case atStart => exact ⟨0, by omega, rfl, HB11, HR11, HS11, HL11, Nat.le_refl _⟩
        case round =>
          clear HB11 HR11 HS11 HL11
          obtain ⟨k, hk, rfl, hb, hr1, hr2, hs1, hs2⟩ := hrel
          by_cases hlt : k < 14
          · have hk2 : (k : Int) < 14 := by omega
            have v0 : IntKind.i64.wrap 0 = 0 := rfl
            have v1 : IntKind.i64.wrap 1 = 1 := rfl
            have v2 : IntKind.i64.wrap 2 = 2 := rfl
            have v4 : IntKind.i64.wrap 4 = 4 := rfl
            have vk : IntKind.i64.wrap ((k : Int) / 2) = (k : Int) / 2 := IntWalk.i64_in _ ⟨by omega, by omega⟩
            have vm : IntKind.i64.wrap ((k : Int) * 256) = (k : Int) * 256 := IntWalk.i64_in _ ⟨by omega, by omega⟩
            have vn : IntKind.i64.wrap ((k : Int) + 1) = (k : Int) + 1 := IntWalk.i64_in _ ⟨by omega, by omega⟩
            have vo : IntKind.i64.wrap (((k : Int) + 1) * 256) = ((k : Int) + 1) * 256 := IntWalk.i64_in _ ⟨by omega, by omega⟩
            by_cases hks : k / 2 = 1
            · have e5 : ((k : Int) / 2 != 1) = false := by rw [bne_eq_false_iff_eq]; omega
              clear hks
              go_upto_region 28 with fail
              refine wp_region_noPanic ?_
              refine wp_region_held_drew (S := (fun W => Below (wr.heap.size) wr W)) (by kernel_rfl) (Below.refl _ _).drew (fun hH0 => ?_)
              have hH0 : Below (wr.heap.size) wr wr.drew := hH0
              generalize wr.drew = wd3000 at *
              refine wpAnyH_take (i := 0) (oi := { dst := some 132, op := Op.move (Operand.tmp 18), type := 3, pos := "more.go:67", after := #[], guard := none }) (v := ?tkv3001) rfl (by kernel_rfl) (by kernel_rfl) (by kernel_rfl) (fun _ _ _ h => h) (Or.inl ⟨by rfl, ?tky3001⟩) hH0 ?tkr3001
              case tky3001 => (intro w' hSw; clear hSw; go_simp; try with_reducible rfl)
              try simp only [Act.put, List.setIfInBounds_toArray, List.set_cons_zero, List.set_cons_succ]
              refine wpAnyH_take (i := 1) (oi := { dst := some 133, op := Op.binOp BinOp.quo 3 (Operand.tmp 132) (Operand.const (Value.int IntKind.i64 2)) 3, type := 3, pos := "more.go:67", after := #[{ on := 0, ground := Ground.data }], guard := none }) (v := ?tkv3002) rfl (by kernel_rfl) (by kernel_rfl) (by kernel_rfl) (fun _ _ _ h => h) (Or.inl ⟨by rfl, ?tky3002⟩) hH0 ?tkr3002
              case tky3002 => (intro w' hSw; clear hSw; go_simp; try with_reducible rfl)
              try simp only [Act.put, List.setIfInBounds_toArray, List.set_cons_zero, List.set_cons_succ]
              refine wpAnyH_take (i := 2) (oi := { dst := some 134, op := Op.move (Operand.tmp 0), type := 3, pos := "more.go:67", after := #[], guard := none }) (v := ?tkv3003) rfl (by kernel_rfl) (by kernel_rfl) (by kernel_rfl) (fun _ _ _ h => h) (Or.inl ⟨by rfl, ?tky3003⟩) hH0 ?tkr3003
              case tky3003 => (intro w' hSw; clear hSw; go_simp; try with_reducible rfl)
              try simp only [Act.put, List.setIfInBounds_toArray, List.set_cons_zero, List.set_cons_succ]
              refine wpAnyH_take (i := 3) (oi := { dst := some 135, op := Op.binOp BinOp.sub 3 (Operand.const (Value.int IntKind.i64 1)) (Operand.tmp 134) 3, type := 3, pos := "more.go:67", after := #[{ on := 2, ground := Ground.data }], guard := none }) (v := ?tkv3004) rfl (by kernel_rfl) (by kernel_rfl) (by kernel_rfl) (fun _ _ _ h => h) (Or.inl ⟨by rfl, ?tky3004⟩) hH0 ?tkr3004
              case tky3004 => (intro w' hSw; clear hSw; go_simp; try with_reducible rfl)
              try simp only [Act.put, List.setIfInBounds_toArray, List.set_cons_zero, List.set_cons_succ]
              refine wpAnyH_take (i := 4) (oi := { dst := some 136, op := Op.binOp BinOp.mul 3 (Operand.const (Value.int IntKind.i64 2)) (Operand.tmp 135) 3, type := 3, pos := "more.go:67", after := #[{ on := 3, ground := Ground.data }], guard := none }) (v := ?tkv3005) rfl (by kernel_rfl) (by kernel_rfl) (by kernel_rfl) (fun _ _ _ h => h) (Or.inl ⟨by rfl, ?tky3005⟩) hH0 ?tkr3005
              case tky3005 => (intro w' hSw; clear hSw; go_simp; try with_reducible rfl)
              try simp only [Act.put, List.setIfInBounds_toArray, List.set_cons_zero, List.set_cons_succ]
              refine wpAnyH_take (i := 5) (oi := { dst := some 137, op := Op.binOp BinOp.add 3 (Operand.const (Value.int IntKind.i64 2)) (Operand.tmp 136) 3, type := 3, pos := "more.go:67", after := #[{ on := 4, ground := Ground.data }], guard := none }) (v := ?tkv3006) rfl (by kernel_rfl) (by kernel_rfl) (by kernel_rfl) (fun _ _ _ h => h) (Or.inl ⟨by rfl, ?tky3006⟩) hH0 ?tkr3006
              case tky3006 => (intro w' hSw; clear hSw; go_simp; try with_reducible rfl)
              try simp only [Act.put, List.setIfInBounds_toArray, List.set_cons_zero, List.set_cons_succ]
              refine wpAnyH_take (i := 6) (oi := { dst := some 138, op := Op.binOp BinOp.quo 3 (Operand.tmp 137) (Operand.const (Value.int IntKind.i64 2)) 3, type := 3, pos := "more.go:67", after := #[{ on := 5, ground := Ground.data }], guard := none }) (v := ?tkv3007) rfl (by kernel_rfl) (by kernel_rfl) (by kernel_rfl) (fun _ _ _ h => h) (Or.inl ⟨by rfl, ?tky3007⟩) hH0 ?tkr3007
              case tky3007 => (intro w' hSw; clear hSw; go_simp; try with_reducible rfl)
              try simp only [Act.put, List.setIfInBounds_toArray, List.set_cons_zero, List.set_cons_succ]
              refine wpAnyH_take (i := 7) (oi := { dst := some 139, op := Op.binOp BinOp.neq 3 (Operand.tmp 133) (Operand.tmp 138) 3, type := 4, pos := "more.go:67", after := #[{ on := 1, ground := Ground.data }, { on := 6, ground := Ground.data }], guard := none }) (v := ?tkv3008) rfl (by kernel_rfl) (by kernel_rfl) (by kernel_rfl) (fun _ _ _ h => h) (Or.inl ⟨by rfl, ?tky3008⟩) hH0 ?tkr3008
              case tky3008 => (intro w' hSw; clear hSw; go_simp; try with_reducible rfl)
              try simp only [Act.put, List.setIfInBounds_toArray, List.set_cons_zero, List.set_cons_succ]
              refine wpAnyH_take (i := 8) (oi := { dst := some 140, op := Op.move (Operand.tmp 139), type := 4, pos := "more.go:67", after := #[{ on := 7, ground := Ground.data }], guard := none }) (v := ?tkv3009) rfl (by kernel_rfl) (by kernel_rfl) (by kernel_rfl) (fun _ _ _ h => h) (Or.inl ⟨by rfl, ?tky3009⟩) hH0 ?tkr3009
              case tky3009 => (intro w' hSw; clear hSw; go_simp; try with_reducible rfl)
              try simp only [Act.put, List.setIfInBounds_toArray, List.set_cons_zero, List.set_cons_succ]
              refine wpAnyH_take (i := 9) (oi := { dst := some 141, op := Op.move (Operand.tmp 17), type := 28, pos := "more.go:67", after := #[{ on := 8, ground := Ground.guard }], guard := some (8, true) }) (v := undef) rfl (by kernel_rfl) (by kernel_rfl) (by kernel_rfl) (fun _ _ _ h => h) (Or.inr ⟨by rfl, rfl⟩) hH0 ?tkr3010
              try simp only [Act.put, List.setIfInBounds_toArray, List.set_cons_zero, List.set_cons_succ]
              refine wpAnyH_take (i := 10) (oi := { dst := some 142, op := Op.move (Operand.tmp 18), type := 3, pos := "more.go:67", after := #[{ on := 8, ground := Ground.guard }], guard := some (8, true) }) (v := undef) rfl (by kernel_rfl) (by kernel_rfl) (by kernel_rfl) (fun _ _ _ h => h) (Or.inr ⟨by rfl, rfl⟩) hH0 ?tkr3011
              try simp only [Act.put, List.setIfInBounds_toArray, List.set_cons_zero, List.set_cons_succ]
              refine wpAnyH_take (i := 11) (oi := { dst := some 143, op := Op.binOp BinOp.mul 3 (Operand.tmp 142) (Operand.const (Value.int IntKind.i64 256)) 3, type := 3, pos := "more.go:67", after := #[{ on := 10, ground := Ground.data }, { on := 8, ground := Ground.guard }], guard := some (8, true) }) (v := undef) rfl (by kernel_rfl) (by kernel_rfl) (by kernel_rfl) (fun _ _ _ h => h) (Or.inr ⟨by rfl, rfl⟩) hH0 ?tkr3012
              try simp only [Act.put, List.setIfInBounds_toArray, List.set_cons_zero, List.set_cons_succ]
              refine wpAnyH_take (i := 12) (oi := { dst := some 144, op := Op.move (Operand.tmp 18), type := 3, pos := "more.go:67", after := #[{ on := 8, ground := Ground.guard }], guard := some (8, true) }) (v := undef) rfl (by kernel_rfl) (by kernel_rfl) (by kernel_rfl) (fun _ _ _ h => h) (Or.inr ⟨by rfl, rfl⟩) hH0 ?tkr3013
              try simp only [Act.put, List.setIfInBounds_toArray, List.set_cons_zero, List.set_cons_succ]
              refine wpAnyH_take (i := 13) (oi := { dst := some 145, op := Op.binOp BinOp.add 3 (Operand.tmp 144) (Operand.const (Value.int IntKind.i64 1)) 3, type := 3, pos := "more.go:67", after := #[{ on := 12, ground := Ground.data }, { on := 8, ground := Ground.guard }], guard := some (8, true) }) (v := undef) rfl (by kernel_rfl) (by kernel_rfl) (by kernel_rfl) (fun _ _ _ h => h) (Or.inr ⟨by rfl, rfl⟩) hH0 ?tkr3014
              try simp only [Act.put, List.setIfInBounds_toArray, List.set_cons_zero, List.set_cons_succ]
              refine wpAnyH_take (i := 14) (oi := { dst := some 146, op := Op.binOp BinOp.mul 3 (Operand.tmp 145) (Operand.const (Value.int IntKind.i64 256)) 3, type := 3, pos := "more.go:67", after := #[{ on := 13, ground := Ground.data }, { on := 8, ground := Ground.guard }], guard := some (8, true) }) (v := undef) rfl (by kernel_rfl) (by kernel_rfl) (by kernel_rfl) (fun _ _ _ h => h) (Or.inr ⟨by rfl, rfl⟩) hH0 ?tkr3015
              try simp only [Act.put, List.setIfInBounds_toArray, List.set_cons_zero, List.set_cons_succ]
              refine wpAnyH_take (i := 15) (oi := { dst := some 147, op := Op.slice 28 (Operand.tmp 141) (some (Operand.tmp 143)) (some (Operand.tmp 146)) none, type := 28, pos := "more.go:67", after := #[{ on := 9, ground := Ground.data }, { on := 11, ground := Ground.data }, { on := 14, ground := Ground.data }, { on := 8, ground := Ground.guard }], guard := some (8, true) }) (v := undef) rfl (by kernel_rfl) (by kernel_rfl) (by kernel_rfl) (fun _ _ _ h => h) (Or.inr ⟨by rfl, rfl⟩) hH0 ?tkr3016
              try simp only [Act.put, List.setIfInBounds_toArray, List.set_cons_zero, List.set_cons_succ]
              refine wpAnyH_take (i := 16) (oi := { dst := some 148, op := Op.convert 28 9 (Operand.tmp 147), type := 9, pos := "more.go:67", after := #[{ on := 15, ground := Ground.data }, { on := 8, ground := Ground.guard }], guard := some (8, true) }) (v := undef) rfl (by kernel_rfl) (by kernel_rfl) (by kernel_rfl) (fun _ _ _ h => h) (Or.inr ⟨by rfl, rfl⟩) hH0 ?tkr3017
              try simp only [Act.put, List.setIfInBounds_toArray, List.set_cons_zero, List.set_cons_succ]
              refine wpAnyH_take (i := 17) (oi := { dst := some 149, op := Op.move (Operand.tmp 15), type := 28, pos := "more.go:67", after := #[{ on := 8, ground := Ground.guard }], guard := some (8, true) }) (v := undef) rfl (by kernel_rfl) (by kernel_rfl) (by kernel_rfl) (fun _ _ _ h => h) (Or.inr ⟨by rfl, rfl⟩) hH0 ?tkr3018
              try simp only [Act.put, List.setIfInBounds_toArray, List.set_cons_zero, List.set_cons_succ]
              refine wpAnyH_take (i := 18) (oi := { dst := some 150, op := Op.move (Operand.tmp 18), type := 3, pos := "more.go:67", after := #[{ on := 8, ground := Ground.guard }], guard := some (8, true) }) (v := undef) rfl (by kernel_rfl) (by kernel_rfl) (by kernel_rfl) (fun _ _ _ h => h) (Or.inr ⟨by rfl, rfl⟩) hH0 ?tkr3019
              try simp only [Act.put, List.setIfInBounds_toArray, List.set_cons_zero, List.set_cons_succ]
              refine wpAnyH_take (i := 19) (oi := { dst := some 151, op := Op.binOp BinOp.mul 3 (Operand.tmp 150) (Operand.const (Value.int IntKind.i64 256)) 3, type := 3, pos := "more.go:67", after := #[{ on := 18, ground := Ground.data }, { on := 8, ground := Ground.guard }], guard := some (8, true) }) (v := undef) rfl (by kernel_rfl) (by kernel_rfl) (by kernel_rfl) (fun _ _ _ h => h) (Or.inr ⟨by rfl, rfl⟩) hH0 ?tkr3020
              try simp only [Act.put, List.setIfInBounds_toArray, List.set_cons_zero, List.set_cons_succ]
              refine wpAnyH_take (i := 20) (oi := { dst := some 152, op := Op.move (Operand.tmp 18), type := 3, pos := "more.go:67", after := #[{ on := 8, ground := Ground.guard }], guard := some (8, true) }) (v := undef) rfl (by kernel_rfl) (by kernel_rfl) (by kernel_rfl) (fun _ _ _ h => h) (Or.inr ⟨by rfl, rfl⟩) hH0 ?tkr3021
              try simp only [Act.put, List.setIfInBounds_toArray, List.set_cons_zero, List.set_cons_succ]
              refine wpAnyH_take (i := 21) (oi := { dst := some 153, op := Op.binOp BinOp.add 3 (Operand.tmp 152) (Operand.const (Value.int IntKind.i64 1)) 3, type := 3, pos := "more.go:67", after := #[{ on := 20, ground := Ground.data }, { on := 8, ground := Ground.guard }], guard := some (8, true) }) (v := undef) rfl (by kernel_rfl) (by kernel_rfl) (by kernel_rfl) (fun _ _ _ h => h) (Or.inr ⟨by rfl, rfl⟩) hH0 ?tkr3022
              try simp only [Act.put, List.setIfInBounds_toArray, List.set_cons_zero, List.set_cons_succ]
              refine wpAnyH_take (i := 22) (oi := { dst := some 154, op := Op.binOp BinOp.mul 3 (Operand.tmp 153) (Operand.const (Value.int IntKind.i64 256)) 3, type := 3, pos := "more.go:67", after := #[{ on := 21, ground := Ground.data }, { on := 8, ground := Ground.guard }], guard := some (8, true) }) (v := undef) rfl (by kernel_rfl) (by kernel_rfl) (by kernel_rfl) (fun _ _ _ h => h) (Or.inr ⟨by rfl, rfl⟩) hH0 ?tkr3023
              try simp only [Act.put, List.setIfInBounds_toArray, List.set_cons_zero, List.set_cons_succ]
              refine wpAnyH_take (i := 23) (oi := { dst := some 155, op := Op.slice 28 (Operand.tmp 149) (some (Operand.tmp 151)) (some (Operand.tmp 154)) none, type := 28, pos := "more.go:67", after := #[{ on := 17, ground := Ground.data }, { on := 19, ground := Ground.data }, { on := 22, ground := Ground.data }, { on := 8, ground := Ground.guard }], guard := some (8, true) }) (v := undef) rfl (by kernel_rfl) (by kernel_rfl) (by kernel_rfl) (fun _ _ _ h => h) (Or.inr ⟨by rfl, rfl⟩) hH0 ?tkr3024
              try simp only [Act.put, List.setIfInBounds_toArray, List.set_cons_zero, List.set_cons_succ]
              refine wpAnyH_take (i := 24) (oi := { dst := some 156, op := Op.convert 28 9 (Operand.tmp 155), type := 9, pos := "more.go:67", after := #[{ on := 23, ground := Ground.data }, { on := 8, ground := Ground.guard }], guard := some (8, true) }) (v := undef) rfl (by kernel_rfl) (by kernel_rfl) (by kernel_rfl) (fun _ _ _ h => h) (Or.inr ⟨by rfl, rfl⟩) hH0 ?tkr3025
              try simp only [Act.put, List.setIfInBounds_toArray, List.set_cons_zero, List.set_cons_succ]
              refine wpAnyH_take (i := 25) (oi := { dst := some 157, op := Op.binOp BinOp.neq 9 (Operand.tmp 148) (Operand.tmp 156) 9, type := 4, pos := "more.go:67", after := #[{ on := 16, ground := Ground.data }, { on := 24, ground := Ground.data }, { on := 8, ground := Ground.guard }], guard := some (8, true) }) (v := undef) rfl (by kernel_rfl) (by kernel_rfl) (by kernel_rfl) (fun _ _ _ h => h) (Or.inr ⟨by rfl, rfl⟩) hH0 ?tkr3026
              try simp only [Act.put, List.setIfInBounds_toArray, List.set_cons_zero, List.set_cons_succ]
              refine wpAnyH_take (i := 26) (oi := { dst := some 158, op := Op.pick (Operand.tmp 140) (Operand.tmp 157) (Operand.const (Value.bool false)), type := 4, pos := "more.go:67", after := #[{ on := 8, ground := Ground.data }, { on := 25, ground := Ground.data }], guard := none }) (v := ?tkv3027) rfl (by kernel_rfl) (by kernel_rfl) (by kernel_rfl) (fun _ _ _ h => h) (Or.inl ⟨by rfl, ?tky3027⟩) hH0 ?tkr3027
              case tky3027 => (intro w' hSw; clear hSw; go_simp; try with_reducible rfl)
              try simp only [Act.put, List.setIfInBounds_toArray, List.set_cons_zero, List.set_cons_succ]
              refine wpAnyH_done (by kernel_rfl) ?_ _
              refine NoPanic.normal ?_
              have HBE := Lib.hid (hb.out.trans (hH0.mono hb.out.size))
              have HE1 := Lib.hid (hr1.out.below (hH0.mono hs1.out))
              have HE2 := Lib.hid (hr2.out.below (hH0.mono hs2.out))
              have HE3 : Hid (w9.heap.size ≤ _) := Nat.le_trans hs1.out (hH0).size
              have HE4 : Hid (w11.heap.size ≤ _) := Nat.le_trans hs2.out (hH0).size
              go_wp2_with fail
              go_roundw
              case rel => exact ⟨k + 1, by omega, by go_num, HBE, HE1, HE2, HE3, HE4⟩
              case measure => simp [intOf]; omega
            · have e5 : ((k : Int) / 2 != 1) = true := by rw [bne_iff_ne]; omega
              have hs := sect_same HOUT.out (show k < 14 by omega) (by omega)
              have q1 := hr1.out.cut (k := 256 * k) (m := 256) (by omega)
              have q2 := hr2.out.cut (k := 256 * k) (m := 256) (by omega)
              rw [bv_drop, bv_take] at q1 q2
              rw [hs] at q2
              simp only [Option.map_some, plain_add, Nat.zero_add] at q1 q2
              generalize ((f4.sub 0 3584).drop (256 * k)).take 256 = R at q1 q2
              have HF28 : Hid (∀ W, Below wr.heap.size wr W → (Instr.sliceAt 28 (.slice (some ⟨gr, 0, none⟩) 3584 c7) (some (.int .i64 ((k : Int) * 256))) (some (.int .i64 (((k : Int) + 1) * 256))) none).run Tryd.prog W = .ok (.slice (some ⟨gr, 256 * k, none⟩) 256 (c7 - 256 * k)) W ∧ (Instr.sliceAt 28 (.slice (some ⟨gs, 0, none⟩) 3584 c11) (some (.int .i64 ((k : Int) * 256))) (some (.int .i64 (((k : Int) + 1) * 256))) none).run Tryd.prog W = .ok (.slice (some ⟨gs, 256 * k, none⟩) 256 (c11 - 256 * k)) W ∧ (Instr.slice 28 (.slice (some ⟨gr, 0, none⟩) 3584 c7) (some (.int .i64 ((k : Int) * 256))) (some (.int .i64 (((k : Int) + 1) * 256))) none).run Tryd.prog W = .ok (.slice (some ⟨gr, 256 * k, none⟩) 256 (c7 - 256 * k)) W ∧ (Instr.slice 28 (.slice (some ⟨gs, 0, none⟩) 3584 c11) (some (.int .i64 ((k : Int) * 256))) (some (.int .i64 (((k : Int) + 1) * 256))) none).run Tryd.prog W = .ok (.slice (some ⟨gs, 256 * k, none⟩) 256 (c11 - 256 * k)) W ∧ (convert 28 9 (.slice (some ⟨gr, 256 * k, none⟩) 256 (c7 - 256 * k))).run Tryd.prog W = .ok (.string ⟨R.toArray⟩) W ∧ (convert 28 9 (.slice (some ⟨gs, 256 * k, none⟩) 256 (c11 - 256 * k))).run Tryd.prog W = .ok (.string ⟨R.toArray⟩) W) := Lib.hid fun W hW =>
                ⟨sl_sectA gr c7 k W (by omega) (by omega), sl_sectA gs c11 k W (by omega) (by omega), sl_sect gr c7 k W (by omega) (by omega), sl_sect gs c11 k W (by omega) (by omega), conv_row _ q1 hs1.out W hW, conv_row _ q2 hs2.out W hW⟩
              clear hs q1 q2 hks
              go_upto_region 28 with fail
              refine wp_region_noPanic ?_
              refine wp_region_held_drew (S := (fun W => Below (wr.heap.size) wr W)) (by kernel_rfl) (Below.refl _ _).drew (fun hH0 => ?_)
              have hH0 : Below (wr.heap.size) wr wr.drew := hH0
              generalize wr.drew = wd3700 at *
              refine wpAnyH_take (i := 0) (oi := { dst := some 132, op := Op.move (Operand.tmp 18), type := 3, pos := "more.go:67", after := #[], guard := none }) (v := ?tkv3701) rfl (by kernel_rfl) (by kernel_rfl) (by kernel_rfl) (fun _ _ _ h => h) (Or.inl ⟨by rfl, ?tky3701⟩) hH0 ?tkr3701
              case tky3701 => (intro w' hSw; clear hSw; go_simp; try with_reducible rfl)
              try simp only [Act.put, List.setIfInBounds_toArray, List.set_cons_zero, List.set_cons_succ]
              refine wpAnyH_take (i := 1) (oi := { dst := some 133, op := Op.binOp BinOp.quo 3 (Operand.tmp 132) (Operand.const (Value.int IntKind.i64 2)) 3, type := 3, pos := "more.go:67", after := #[{ on := 0, ground := Ground.data }], guard := none }) (v := ?tkv3702) rfl (by kernel_rfl) (by kernel_rfl) (by kernel_rfl) (fun _ _ _ h => h) (Or.inl ⟨by rfl, ?tky3702⟩) hH0 ?tkr3702
              case tky3702 => (intro w' hSw; clear hSw; go_simp; try with_reducible rfl)
              try simp only [Act.put, List.setIfInBounds_toArray, List.set_cons_zero, List.set_cons_succ]
              refine wpAnyH_take (i := 2) (oi := { dst := some 134, op := Op.move (Operand.tmp 0), type := 3, pos := "more.go:67", after := #[], guard := none }) (v := ?tkv3703) rfl (by kernel_rfl) (by kernel_rfl) (by kernel_rfl) (fun _ _ _ h => h) (Or.inl ⟨by rfl, ?tky3703⟩) hH0 ?tkr3703
              case tky3703 => (intro w' hSw; clear hSw; go_simp; try with_reducible rfl)
              try simp only [Act.put, List.setIfInBounds_toArray, List.set_cons_zero, List.set_cons_succ]
              refine wpAnyH_take (i := 3) (oi := { dst := some 135, op := Op.binOp BinOp.sub 3 (Operand.const (Value.int IntKind.i64 1)) (Operand.tmp 134) 3, type := 3, pos := "more.go:67", after := #[{ on := 2, ground := Ground.data }], guard := none }) (v := ?tkv3704) rfl (by kernel_rfl) (by kernel_rfl) (by kernel_rfl) (fun _ _ _ h => h) (Or.inl ⟨by rfl, ?tky3704⟩) hH0 ?tkr3704
              case tky3704 => (intro w' hSw; clear hSw; go_simp; try with_reducible rfl)
              try simp only [Act.put, List.setIfInBounds_toArray, List.set_cons_zero, List.set_cons_succ]
              refine wpAnyH_take (i := 4) (oi := { dst := some 136, op := Op.binOp BinOp.mul 3 (Operand.const (Value.int IntKind.i64 2)) (Operand.tmp 135) 3, type := 3, pos := "more.go:67", after := #[{ on := 3, ground := Ground.data }], guard := none }) (v := ?tkv3705) rfl (by kernel_rfl) (by kernel_rfl) (by kernel_rfl) (fun _ _ _ h => h) (Or.inl ⟨by rfl, ?tky3705⟩) hH0 ?tkr3705
              case tky3705 => (intro w' hSw; clear hSw; go_simp; try with_reducible rfl)
              try simp only [Act.put, List.setIfInBounds_toArray, List.set_cons_zero, List.set_cons_succ]
              refine wpAnyH_take (i := 5) (oi := { dst := some 137, op := Op.binOp BinOp.add 3 (Operand.const (Value.int IntKind.i64 2)) (Operand.tmp 136) 3, type := 3, pos := "more.go:67", after := #[{ on := 4, ground := Ground.data }], guard := none }) (v := ?tkv3706) rfl (by kernel_rfl) (by kernel_rfl) (by kernel_rfl) (fun _ _ _ h => h) (Or.inl ⟨by rfl, ?tky3706⟩) hH0 ?tkr3706
              case tky3706 => (intro w' hSw; clear hSw; go_simp; try with_reducible rfl)
              try simp only [Act.put, List.setIfInBounds_toArray, List.set_cons_zero, List.set_cons_succ]
              refine wpAnyH_take (i := 6) (oi := { dst := some 138, op := Op.binOp BinOp.quo 3 (Operand.tmp 137) (Operand.const (Value.int IntKind.i64 2)) 3, type := 3, pos := "more.go:67", after := #[{ on := 5, ground := Ground.data }], guard := none }) (v := ?tkv3707) rfl (by kernel_rfl) (by kernel_rfl) (by kernel_rfl) (fun _ _ _ h => h) (Or.inl ⟨by rfl, ?tky3707⟩) hH0 ?tkr3707
              case tky3707 => (intro w' hSw; clear hSw; go_simp; try with_reducible rfl)
              try simp only [Act.put, List.setIfInBounds_toArray, List.set_cons_zero, List.set_cons_succ]
              refine wpAnyH_take (i := 7) (oi := { dst := some 139, op := Op.binOp BinOp.neq 3 (Operand.tmp 133) (Operand.tmp 138) 3, type := 4, pos := "more.go:67", after := #[{ on := 1, ground := Ground.data }, { on := 6, ground := Ground.data }], guard := none }) (v := ?tkv3708) rfl (by kernel_rfl) (by kernel_rfl) (by kernel_rfl) (fun _ _ _ h => h) (Or.inl ⟨by rfl, ?tky3708⟩) hH0 ?tkr3708
              case tky3708 => (intro w' hSw; clear hSw; go_simp; try with_reducible rfl)
              try simp only [Act.put, List.setIfInBounds_toArray, List.set_cons_zero, List.set_cons_succ]
              refine wpAnyH_take (i := 8) (oi := { dst := some 140, op := Op.move (Operand.tmp 139), type := 4, pos := "more.go:67", after := #[{ on := 7, ground := Ground.data }], guard := none }) (v := ?tkv3709) rfl (by kernel_rfl) (by kernel_rfl) (by kernel_rfl) (fun _ _ _ h => h) (Or.inl ⟨by rfl, ?tky3709⟩) hH0 ?tkr3709
              case tky3709 => (intro w' hSw; clear hSw; go_simp; try with_reducible rfl)
              try simp only [Act.put, List.setIfInBounds_toArray, List.set_cons_zero, List.set_cons_succ]
              refine wpAnyH_take (i := 9) (oi := { dst := some 141, op := Op.move (Operand.tmp 17), type := 28, pos := "more.go:67", after := #[{ on := 8, ground := Ground.guard }], guard := some (8, true) }) (v := ?tkv3710) rfl (by kernel_rfl) (by kernel_rfl) (by kernel_rfl) (fun _ _ _ h => h) (Or.inl ⟨by rfl, ?tky3710⟩) hH0 ?tkr3710
              case tky3710 => (intro w' hSw; clear hSw; go_simp; try with_reducible rfl)
              try simp only [Act.put, List.setIfInBounds_toArray, List.set_cons_zero, List.set_cons_succ]
              refine wpAnyH_take (i := 10) (oi := { dst := some 142, op := Op.move (Operand.tmp 18), type := 3, pos := "more.go:67", after := #[{ on := 8, ground := Ground.guard }], guard := some (8, true) }) (v := ?tkv3711) rfl (by kernel_rfl) (by kernel_rfl) (by kernel_rfl) (fun _ _ _ h => h) (Or.inl ⟨by rfl, ?tky3711⟩) hH0 ?tkr3711
              case tky3711 => (intro w' hSw; clear hSw; go_simp; try with_reducible rfl)
              try simp only [Act.put, List.setIfInBounds_toArray, List.set_cons_zero, List.set_cons_succ]
              refine wpAnyH_take (i := 11) (oi := { dst := some 143, op := Op.binOp BinOp.mul 3 (Operand.tmp 142) (Operand.const (Value.int IntKind.i64 256)) 3, type := 3, pos := "more.go:67", after := #[{ on := 10, ground := Ground.data }, { on := 8, ground := Ground.guard }], guard := some (8, true) }) (v := ?tkv3712) rfl (by kernel_rfl) (by kernel_rfl) (by kernel_rfl) (fun _ _ _ h => h) (Or.inl ⟨by rfl, ?tky3712⟩) hH0 ?tkr3712
              case tky3712 => (intro w' hSw; clear hSw; go_simp; try with_reducible rfl)
              try simp only [Act.put, List.setIfInBounds_toArray, List.set_cons_zero, List.set_cons_succ]
              refine wpAnyH_take (i := 12) (oi := { dst := some 144, op := Op.move (Operand.tmp 18), type := 3, pos := "more.go:67", after := #[{ on := 8, ground := Ground.guard }], guard := some (8, true) }) (v := ?tkv3713) rfl (by kernel_rfl) (by kernel_rfl) (by kernel_rfl) (fun _ _ _ h => h) (Or.inl ⟨by rfl, ?tky3713⟩) hH0 ?tkr3713
              case tky3713 => (intro w' hSw; clear hSw; go_simp; try with_reducible rfl)
              try simp only [Act.put, List.setIfInBounds_toArray, List.set_cons_zero, List.set_cons_succ]
              refine wpAnyH_take (i := 13) (oi := { dst := some 145, op := Op.binOp BinOp.add 3 (Operand.tmp 144) (Operand.const (Value.int IntKind.i64 1)) 3, type := 3, pos := "more.go:67", after := #[{ on := 12, ground := Ground.data }, { on := 8, ground := Ground.guard }], guard := some (8, true) }) (v := ?tkv3714) rfl (by kernel_rfl) (by kernel_rfl) (by kernel_rfl) (fun _ _ _ h => h) (Or.inl ⟨by rfl, ?tky3714⟩) hH0 ?tkr3714
              case tky3714 => (intro w' hSw; clear hSw; go_simp; try with_reducible rfl)
              try simp only [Act.put, List.setIfInBounds_toArray, List.set_cons_zero, List.set_cons_succ]
              refine wpAnyH_take (i := 14) (oi := { dst := some 146, op := Op.binOp BinOp.mul 3 (Operand.tmp 145) (Operand.const (Value.int IntKind.i64 256)) 3, type := 3, pos := "more.go:67", after := #[{ on := 13, ground := Ground.data }, { on := 8, ground := Ground.guard }], guard := some (8, true) }) (v := ?tkv3715) rfl (by kernel_rfl) (by kernel_rfl) (by kernel_rfl) (fun _ _ _ h => h) (Or.inl ⟨by rfl, ?tky3715⟩) hH0 ?tkr3715
              case tky3715 => (intro w' hSw; clear hSw; go_simp; try with_reducible rfl)
              try simp only [Act.put, List.setIfInBounds_toArray, List.set_cons_zero, List.set_cons_succ]
              refine wpAnyH_take (i := 15) (oi := { dst := some 147, op := Op.slice 28 (Operand.tmp 141) (some (Operand.tmp 143)) (some (Operand.tmp 146)) none, type := 28, pos := "more.go:67", after := #[{ on := 9, ground := Ground.data }, { on := 11, ground := Ground.data }, { on := 14, ground := Ground.data }, { on := 8, ground := Ground.guard }], guard := some (8, true) }) (v := ?tkv3716) rfl (by kernel_rfl) (by kernel_rfl) (by kernel_rfl) (fun _ _ _ h => h) (Or.inl ⟨by rfl, ?tky3716⟩) hH0 ?tkr3716
              case tky3716 => (intro w' hSw; have z0 := HF28.out _ hSw; clear hSw; go_simp; try with_reducible rfl)
              try simp only [Act.put, List.setIfInBounds_toArray, List.set_cons_zero, List.set_cons_succ]
              refine wpAnyH_take (i := 16) (oi := { dst := some 148, op := Op.convert 28 9 (Operand.tmp 147), type := 9, pos := "more.go:67", after := #[{ on := 15, ground := Ground.data }, { on := 8, ground := Ground.guard }], guard := some (8, true) }) (v := ?tkv3717) rfl (by kernel_rfl) (by kernel_rfl) (by kernel_rfl) (fun _ _ _ h => h) (Or.inl ⟨by rfl, ?tky3717⟩) hH0 ?tkr3717
              case tky3717 => (intro w' hSw; have z0 := HF28.out _ hSw; clear hSw; go_simp; try with_reducible rfl)
              try simp only [Act.put, List.setIfInBounds_toArray, List.set_cons_zero, List.set_cons_succ]
              refine wpAnyH_take (i := 17) (oi := { dst := some 149, op := Op.move (Operand.tmp 15), type := 28, pos := "more.go:67", after := #[{ on := 8, ground := Ground.guard }], guard := some (8, true) }) (v := ?tkv3718) rfl (by kernel_rfl) (by kernel_rfl) (by kernel_rfl) (fun _ _ _ h => h) (Or.inl ⟨by rfl, ?tky3718⟩) hH0 ?tkr3718
              case tky3718 => (intro w' hSw; clear hSw; go_simp; try with_reducible rfl)
              try simp only [Act.put, List.setIfInBounds_toArray, List.set_cons_zero, List.set_cons_succ]
              refine wpAnyH_take (i := 18) (oi := { dst := some 150, op := Op.move (Operand.tmp 18), type := 3, pos := "more.go:67", after := #[{ on := 8, ground := Ground.guard }], guard := some (8, true) }) (v := ?tkv3719) rfl (by kernel_rfl) (by kernel_rfl) (by kernel_rfl) (fun _ _ _ h => h) (Or.inl ⟨by rfl, ?tky3719⟩) hH0 ?tkr3719
              case tky3719 => (intro w' hSw; clear hSw; go_simp; try with_reducible rfl)
              try simp only [Act.put, List.setIfInBounds_toArray, List.set_cons_zero, List.set_cons_succ]
              refine wpAnyH_take (i := 19) (oi := { dst := some 151, op := Op.binOp BinOp.mul 3 (Operand.tmp 150) (Operand.const (Value.int IntKind.i64 256)) 3, type := 3, pos := "more.go:67", after := #[{ on := 18, ground := Ground.data }, { on := 8, ground := Ground.guard }], guard := some (8, true) }) (v := ?tkv3720) rfl (by kernel_rfl) (by kernel_rfl) (by kernel_rfl) (fun _ _ _ h => h) (Or.inl ⟨by rfl, ?tky3720⟩) hH0 ?tkr3720
              case tky3720 => (intro w' hSw; clear hSw; go_simp; try with_reducible rfl)
              try simp only [Act.put, List.setIfInBounds_toArray, List.set_cons_zero, List.set_cons_succ]
              refine wpAnyH_take (i := 20) (oi := { dst := some 152, op := Op.move (Operand.tmp 18), type := 3, pos := "more.go:67", after := #[{ on := 8, ground := Ground.guard }], guard := some (8, true) }) (v := ?tkv3721) rfl (by kernel_rfl) (by kernel_rfl) (by kernel_rfl) (fun _ _ _ h => h) (Or.inl ⟨by rfl, ?tky3721⟩) hH0 ?tkr3721
              case tky3721 => (intro w' hSw; clear hSw; go_simp; try with_reducible rfl)
              try simp only [Act.put, List.setIfInBounds_toArray, List.set_cons_zero, List.set_cons_succ]
              refine wpAnyH_take (i := 21) (oi := { dst := some 153, op := Op.binOp BinOp.add 3 (Operand.tmp 152) (Operand.const (Value.int IntKind.i64 1)) 3, type := 3, pos := "more.go:67", after := #[{ on := 20, ground := Ground.data }, { on := 8, ground := Ground.guard }], guard := some (8, true) }) (v := ?tkv3722) rfl (by kernel_rfl) (by kernel_rfl) (by kernel_rfl) (fun _ _ _ h => h) (Or.inl ⟨by rfl, ?tky3722⟩) hH0 ?tkr3722
              case tky3722 => (intro w' hSw; clear hSw; go_simp; try with_reducible rfl)
              try simp only [Act.put, List.setIfInBounds_toArray, List.set_cons_zero, List.set_cons_succ]
              refine wpAnyH_take (i := 22) (oi := { dst := some 154, op := Op.binOp BinOp.mul 3 (Operand.tmp 153) (Operand.const (Value.int IntKind.i64 256)) 3, type := 3, pos := "more.go:67", after := #[{ on := 21, ground := Ground.data }, { on := 8, ground := Ground.guard }], guard := some (8, true) }) (v := ?tkv3723) rfl (by kernel_rfl) (by kernel_rfl) (by kernel_rfl) (fun _ _ _ h => h) (Or.inl ⟨by rfl, ?tky3723⟩) hH0 ?tkr3723
              case tky3723 => (intro w' hSw; clear hSw; go_simp; try with_reducible rfl)
              try simp only [Act.put, List.setIfInBounds_toArray, List.set_cons_zero, List.set_cons_succ]
              refine wpAnyH_take (i := 23) (oi := { dst := some 155, op := Op.slice 28 (Operand.tmp 149) (some (Operand.tmp 151)) (some (Operand.tmp 154)) none, type := 28, pos := "more.go:67", after := #[{ on := 17, ground := Ground.data }, { on := 19, ground := Ground.data }, { on := 22, ground := Ground.data }, { on := 8, ground := Ground.guard }], guard := some (8, true) }) (v := ?tkv3724) rfl (by kernel_rfl) (by kernel_rfl) (by kernel_rfl) (fun _ _ _ h => h) (Or.inl ⟨by rfl, ?tky3724⟩) hH0 ?tkr3724
              case tky3724 => (intro w' hSw; have z0 := HF28.out _ hSw; clear hSw; go_simp; try with_reducible rfl)
              try simp only [Act.put, List.setIfInBounds_toArray, List.set_cons_zero, List.set_cons_succ]
              refine wpAnyH_take (i := 24) (oi := { dst := some 156, op := Op.convert 28 9 (Operand.tmp 155), type := 9, pos := "more.go:67", after := #[{ on := 23, ground := Ground.data }, { on := 8, ground := Ground.guard }], guard := some (8, true) }) (v := ?tkv3725) rfl (by kernel_rfl) (by kernel_rfl) (by kernel_rfl) (fun _ _ _ h => h) (Or.inl ⟨by rfl, ?tky3725⟩) hH0 ?tkr3725
              case tky3725 => (intro w' hSw; have z0 := HF28.out _ hSw; clear hSw; go_simp; try with_reducible rfl)
              try simp only [Act.put, List.setIfInBounds_toArray, List.set_cons_zero, List.set_cons_succ]
              refine wpAnyH_take (i := 25) (oi := { dst := some 157, op := Op.binOp BinOp.neq 9 (Operand.tmp 148) (Operand.tmp 156) 9, type := 4, pos := "more.go:67", after := #[{ on := 16, ground := Ground.data }, { on := 24, ground := Ground.data }, { on := 8, ground := Ground.guard }], guard := some (8, true) }) (v := ?tkv3726) rfl (by kernel_rfl) (by kernel_rfl) (by kernel_rfl) (fun _ _ _ h => h) (Or.inl ⟨by rfl, ?tky3726⟩) hH0 ?tkr3726
              case tky3726 => (intro w' hSw; clear hSw; go_simp; try with_reducible rfl)
              try simp only [Act.put, List.setIfInBounds_toArray, List.set_cons_zero, List.set_cons_succ]
              refine wpAnyH_take (i := 26) (oi := { dst := some 158, op := Op.pick (Operand.tmp 140) (Operand.tmp 157) (Operand.const (Value.bool false)), type := 4, pos := "more.go:67", after := #[{ on := 8, ground := Ground.data }, { on := 25, ground := Ground.data }], guard := none }) (v := ?tkv3727) rfl (by kernel_rfl) (by kernel_rfl) (by kernel_rfl) (fun _ _ _ h => h) (Or.inl ⟨by rfl, ?tky3727⟩) hH0 ?tkr3727
              case tky3727 => (intro w' hSw; clear hSw; go_simp; try with_reducible rfl)
              try simp only [Act.put, List.setIfInBounds_toArray, List.set_cons_zero, List.set_cons_succ]
              refine wpAnyH_done (by kernel_rfl) ?_ _
              refine NoPanic.normal ?_
              have HBE := Lib.hid (hb.out.trans (hH0.mono hb.out.size))
              have HE1 := Lib.hid (hr1.out.below (hH0.mono hs1.out))
              have HE2 := Lib.hid (hr2.out.below (hH0.mono hs2.out))
              have HE3 : Hid (w9.heap.size ≤ _) := Nat.le_trans hs1.out (hH0).size
              have HE4 : Hid (w11.heap.size ≤ _) := Nat.le_trans hs2.out (hH0).size
              go_wp2_with fail
              go_roundw
              case rel => exact ⟨k + 1, by omega, by go_num, HBE, HE1, HE2, HE3, HE4⟩
              case measure => simp [intOf]; omega
          · obtain rfl : k = 14 := by omega
            have HAW := Lib.hid (awake20_any wr (HT.out.below hb.out HT.out.1))
            clear hr1 hr2 hs1 hs2
            go_wp2_with fail
            refine HAW.out.mono ?_
            rintro e wz ⟨rfl, hbz⟩
            go_wp2_with fail
            go_ret
            exact ⟨rfl, hb.out.trans (hbz.mono hb.out.size)⟩
      | true =>
        clear hbb
        go_wp2_with fail
        refine (bytes_any g f4 w6 HF6.out).mono ?_
        rintro e w7 ⟨A7, n7, c7, rfl, hn7, hown7, hb7⟩
        obtain rfl : n7 = 3584 := hn7.out.trans (Fl.sub_length _ _ _)
        obtain ⟨gr, cr, hv, hgr, hgr2⟩ := hown7.form (by omega)
        injection hv with e1 e2 e3
        subst e1 e3
        have hcc := own_cap hown7
        have HR7 : Hid (Row w7 w7.heap.size (some ⟨gr, 0, none⟩) 3584 (bv (f4.sub 0 3584))) := Row.of_own hown7
        have HB7 : Hid (Below w.heap.size w w7) := HB6.out.trans (hb7.mono HB6.out.size)
        have HF7 : Hid (FlAt w7 g f4) := HF6.out.below hb7
        have hgg : gr ≠ g := by have := HF6.out.lt; omega
        clear hn7 hown7 hb7 HB6 HF6 hgr hgr2
        go_wp2_with fail
        refine (HC5.out w7 HB7.out HF7.out).mono ?_
        rintro e w9 ⟨rfl, hd⟩
        have HB9 : Hid (Below w.heap.size w w9) := below_done2 HB7.out hd.out HB7.out.size hg
        have HF9 : Hid (FlAt w9 g f5) := hd.out.1
        have HR9 : Hid (Row w9 w9.heap.size (some ⟨gr, 0, none⟩) 3584 (bv (f4.sub 0 3584))) := (HR7.out.apart (fun _ b o e => by injection e with e; injection e with e; omega) hd.out.2 (Nat.le_refl _)).more hd.out.2.size
        clear hd HB7 HF7 HR7 HC5
        go_wp2_with fail
        refine (bytes_any g f5 w9 HF9.out).mono ?_
        rintro e w11 ⟨A11, n11, c11, rfl, hn11, hown11, hb11⟩
        obtain rfl : n11 = 3584 := hn11.out.trans (Fl.sub_length _ _ _)
        obtain ⟨gs, cs, hv, hgs, hgs2⟩ := hown11.form (by omega)
        injection hv with e1 e2 e3
        subst e1 e3
        have hcs := own_cap hown11
        have HS11 : Hid (Row w11 w11.heap.size (some ⟨gs, 0, none⟩) 3584 (bv (f5.sub 0 3584))) := Row.of_own hown11
        have HR11 : Hid (Row w11 w9.heap.size (some ⟨gr, 0, none⟩) 3584 (bv (f4.sub 0 3584))) := HR9.out.below hb11
        have HB11 : Hid (Below w.heap.size w w11) := HB9.out.trans (hb11.mono HB9.out.size)
        have HL11 : Hid (w9.heap.size ≤ w11.heap.size) := hb11.size
        clear hn11 hown11 hb11 HB9 HF9 HR9 hgs hgs2
        go_wp2_with fail
        go_loopw [129] (fun i wr => ∃ k : Nat, k ≤ 14 ∧ i = .int .i64 k ∧ Hid (Below w.heap.size w wr) ∧ Hid (Row wr w9.heap.size (some ⟨gr, 0, none⟩) 3584 (bv (f4.sub 0 3584))) ∧ Hid (Row wr w11.heap.size (some ⟨gs, 0, none⟩) 3584 (bv (f5.sub 0 3584))) ∧ Hid (w9.heap.size ≤ wr.heap.size) ∧ Hid (w11.heap.size ≤ wr.heap.size)) (fun i _ => 14 - (intOf i).toNat)
        case atStart => exact ⟨0, by omega, rfl, HB11, HR11, HS11, HL11, Nat.le_refl _⟩
        case round =>
          clear HB11 HR11 HS11 HL11
          obtain ⟨k, hk, rfl, hb, hr1, hr2, hs1, hs2⟩ := hrel
          by_cases hlt : k < 14
          · have hk2 : (k : Int) < 14 := by omega
            have v0 : IntKind.i64.wrap 0 = 0 := rfl
            have v1 : IntKind.i64.wrap 1 = 1 := rfl
            have v2 : IntKind.i64.wrap 2 = 2 := rfl
            have v4 : IntKind.i64.wrap 4 = 4 := rfl
            have vk : IntKind.i64.wrap ((k : Int) / 2) = (k : Int) / 2 := IntWalk.i64_in _ ⟨by omega, by omega⟩
            have vm : IntKind.i64.wrap ((k : Int) * 256) = (k : Int) * 256 := IntWalk.i64_in _ ⟨by omega, by omega⟩
            have vn : IntKind.i64.wrap ((k : Int) + 1) = (k : Int) + 1 := IntWalk.i64_in _ ⟨by omega, by omega⟩
            have vo : IntKind.i64.wrap (((k : Int) + 1) * 256) = ((k : Int) + 1) * 256 := IntWalk.i64_in _ ⟨by omega, by omega⟩
            by_cases hks : k / 2 = 1
            · have e5 : ((k : Int) / 2 != 1) = false := by rw [bne_eq_false_iff_eq]; omega
              clear hks
              go_upto_region 28 with fail
              refine wp_region_noPanic ?_
              refine wp_region_held_drew (S := (fun W => Below (wr.heap.size) wr W)) (by kernel_rfl) (Below.refl _ _).drew (fun hH0 => ?_)
              have hH0 : Below (wr.heap.size) wr wr.drew := hH0
              generalize wr.drew = wd6000 at *
              refine wpAnyH_take (i := 0) (oi := { dst := some 132, op := Op.move (Operand.tmp 18), type := 3, pos := "more.go:67", after := #[], guard := none }) (v := ?tkv6001) rfl (by kernel_rfl) (by kernel_rfl) (by kernel_rfl) (fun _ _ _ h => h) (Or.inl ⟨by rfl, ?tky6001⟩) hH0 ?tkr6001
              case tky6001 => (intro w' hSw; clear hSw; go_simp; try with_reducible rfl)
              try simp only [Act.put, List.setIfInBounds_toArray, List.set_cons_zero, List.set_cons_succ]
              refine wpAnyH_take (i := 1) (oi := { dst := some 133, op := Op.binOp BinOp.quo 3 (Operand.tmp 132) (Operand.const (Value.int IntKind.i64 2)) 3, type := 3, pos := "more.go:67", after := #[{ on := 0, ground := Ground.data }], guard := none }) (v := ?tkv6002) rfl (by kernel_rfl) (by kernel_rfl) (by kernel_rfl) (fun _ _ _ h => h) (Or.inl ⟨by rfl, ?tky6002⟩) hH0 ?tkr6002
              case tky6002 => (intro w' hSw; clear hSw; go_simp; try with_reducible rfl)
              try simp only [Act.put, List.setIfInBounds_toArray, List.set_cons_zero, List.set_cons_succ]
              refine wpAnyH_take (i := 2) (oi := { dst := some 134, op := Op.move (Operand.tmp 0), type := 3, pos := "more.go:67", after := #[], guard := none }) (v := ?tkv6003) rfl (by kernel_rfl) (by kernel_rfl) (by kernel_rfl) (fun _ _ _ h => h) (Or.inl ⟨by rfl, ?tky6003⟩) hH0 ?tkr6003
              case tky6003 => (intro w' hSw; clear hSw; go_simp; try with_reducible rfl)
              try simp only [Act.put, List.setIfInBounds_toArray, List.set_cons_zero, List.set_cons_succ]
              refine wpAnyH_take (i := 3) (oi := { dst := some 135, op := Op.binOp BinOp.sub 3 (Operand.const (Value.int IntKind.i64 1)) (Operand.tmp 134) 3, type := 3, pos := "more.go:67", after := #[{ on := 2, ground := Ground.data }], guard := none }) (v := ?tkv6004) rfl (by kernel_rfl) (by kernel_rfl) (by kernel_rfl) (fun _ _ _ h => h) (Or.inl ⟨by rfl, ?tky6004⟩) hH0 ?tkr6004
              case tky6004 => (intro w' hSw; clear hSw; go_simp; try with_reducible rfl)
              try simp only [Act.put, List.setIfInBounds_toArray, List.set_cons_zero, List.set_cons_succ]
              refine wpAnyH_take (i := 4) (oi := { dst := some 136, op := Op.binOp BinOp.mul 3 (Operand.const (Value.int IntKind.i64 2)) (Operand.tmp 135) 3, type := 3, pos := "more.go:67", after := #[{ on := 3, ground := Ground.data }], guard := none }) (v := ?tkv6005) rfl (by kernel_rfl) (by kernel_rfl) (by kernel_rfl) (fun _ _ _ h => h) (Or.inl ⟨by rfl, ?tky6005⟩) hH0 ?tkr6005
              case tky6005 => (intro w' hSw; clear hSw; go_simp; try with_reducible rfl)
              try simp only [Act.put, List.setIfInBounds_toArray, List.set_cons_zero, List.set_cons_succ]
              refine wpAnyH_take (i := 5) (oi := { dst := some 137, op := Op.binOp BinOp.add 3 (Operand.const (Value.int IntKind.i64 2)) (Operand.tmp 136) 3, type := 3, pos := "more.go:67", after := #[{ on := 4, ground := Ground.data }], guard := none }) (v := ?tkv6006) rfl (by kernel_rfl) (by kernel_rfl) (by kernel_rfl) (fun _ _ _ h => h) (Or.inl ⟨by rfl, ?tky6006⟩) hH0 ?tkr6006
              case tky6006 => (intro w' hSw; clear hSw; go_simp; try with_reducible rfl)
              try simp only [Act.put, List.setIfInBounds_toArray, List.set_cons_zero, List.set_cons_succ]
              refine wpAnyH_take (i := 6) (oi := { dst := some 138, op := Op.binOp BinOp.quo 3 (Operand.tmp 137) (Operand.const (Value.int IntKind.i64 2)) 3, type := 3, pos := "more.go:67", after := #[{ on := 5, ground := Ground.data }], guard := none }) (v := ?tkv6007) rfl (by kernel_rfl) (by kernel_rfl) (by kernel_rfl) (fun _ _ _ h => h) (Or.inl ⟨by rfl, ?tky6007⟩) hH0 ?tkr6007
              case tky6007 => (intro w' hSw; clear hSw; go_simp; try with_reducible rfl)
              try simp only [Act.put, List.setIfInBounds_toArray, List.set_cons_zero, List.set_cons_succ]
              refine wpAnyH_take (i := 7) (oi := { dst := some 139, op := Op.binOp BinOp.neq 3 (Operand.tmp 133) (Operand.tmp 138) 3, type := 4, pos := "more.go:67", after := #[{ on := 1, ground := Ground.data }, { on := 6, ground := Ground.data }], guard := none }) (v := ?tkv6008) rfl (by kernel_rfl) (by kernel_rfl) (by kernel_rfl) (fun _ _ _ h => h) (Or.inl ⟨by rfl, ?tky6008⟩) hH0 ?tkr6008
              case tky6008 => (intro w' hSw; clear hSw; go_simp; try with_reducible rfl)
              try simp only [Act.put, List.setIfInBounds_toArray, List.set_cons_zero, List.set_cons_succ]
              refine wpAnyH_take (i := 8) (oi := { dst := some 140, op := Op.move (Operand.tmp 139), type := 4, pos := "more.go:67", after := #[{ on := 7, ground := Ground.data }], guard := none }) (v := ?tkv6009) rfl (by kernel_rfl) (by kernel_rfl) (by kernel_rfl) (fun _ _ _ h => h) (Or.inl ⟨by rfl, ?tky6009⟩) hH0 ?tkr6009
              case tky6009 => (intro w' hSw; clear hSw; go_simp; try with_reducible rfl)
              try simp only [Act.put, List.setIfInBounds_toArray, List.set_cons_zero, List.set_cons_succ]
              refine wpAnyH_take (i := 9) (oi := { dst := some 141, op := Op.move (Operand.tmp 17), type := 28, pos := "more.go:67", after := #[{ on := 8, ground := Ground.guard }], guard := some (8, true) }) (v := undef) rfl (by kernel_rfl) (by kernel_rfl) (by kernel_rfl) (fun _ _ _ h => h) (Or.inr ⟨by rfl, rfl⟩) hH0 ?tkr6010
              try simp only [Act.put, List.setIfInBounds_toArray, List.set_cons_zero, List.set_cons_succ]
              refine wpAnyH_take (i := 10) (oi := { dst := some 142, op := Op.move (Operand.tmp 18), type := 3, pos := "more.go:67", after := #[{ on := 8, ground := Ground.guard }], guard := some (8, true) }) (v := undef) rfl (by kernel_rfl) (by kernel_rfl) (by kernel_rfl) (fun _ _ _ h => h) (Or.inr ⟨by rfl, rfl⟩) hH0 ?tkr6011
              try simp only [Act.put, List.setIfInBounds_toArray, List.set_cons_zero, List.set_cons_succ]
              refine wpAnyH_take (i := 11) (oi := { dst := some 143, op := Op.binOp BinOp.mul 3 (Operand.tmp 142) (Operand.const (Value.int IntKind.i64 256)) 3, type := 3, pos := "more.go:67", after := #[{ on := 10, ground := Ground.data }, { on := 8, ground := Ground.guard }], guard := some (8, true) }) (v := undef) rfl (by kernel_rfl) (by kernel_rfl) (by kernel_rfl) (fun _ _ _ h => h) (Or.inr ⟨by rfl, rfl⟩) hH0 ?tkr6012
              try simp only [Act.put, List.setIfInBounds_toArray, List.set_cons_zero, List.set_cons_succ]
              refine wpAnyH_take (i := 12) (oi := { dst := some 144, op := Op.move (Operand.tmp 18), type := 3, pos := "more.go:67", after := #[{ on := 8, ground := Ground.guard }], guard := some (8, true) }) (v := undef) rfl (by kernel_rfl) (by kernel_rfl) (by kernel_rfl) (fun _ _ _ h => h) (Or.inr ⟨by rfl, rfl⟩) hH0 ?tkr6013
              try simp only [Act.put, List.setIfInBounds_toArray, List.set_cons_zero, List.set_cons_succ]
              refine wpAnyH_take (i := 13) (oi := { dst := some 145, op := Op.binOp BinOp.add 3 (Operand.tmp 144) (Operand.const (Value.int IntKind.i64 1)) 3, type := 3, pos := "more.go:67", after := #[{ on := 12, ground := Ground.data }, { on := 8, ground := Ground.guard }], guard := some (8, true) }) (v := undef) rfl (by kernel_rfl) (by kernel_rfl) (by kernel_rfl) (fun _ _ _ h => h) (Or.inr ⟨by rfl, rfl⟩) hH0 ?tkr6014
              try simp only [Act.put, List.setIfInBounds_toArray, List.set_cons_zero, List.set_cons_succ]
              refine wpAnyH_take (i := 14) (oi := { dst := some 146, op := Op.binOp BinOp.mul 3 (Operand.tmp 145) (Operand.const (Value.int IntKind.i64 256)) 3, type := 3, pos := "more.go:67", after := #[{ on := 13, ground := Ground.data }, { on := 8, ground := Ground.guard }], guard := some (8, true) }) (v := undef) rfl (by kernel_rfl) (by kernel_rfl) (by kernel_rfl) (fun _ _ _ h => h) (Or.inr ⟨by rfl, rfl⟩) hH0 ?tkr6015
              try simp only [Act.put, List.setIfInBounds_toArray, List.set_cons_zero, List.set_cons_succ]
              refine wpAnyH_take (i := 15) (oi := { dst := some 147, op := Op.slice 28 (Operand.tmp 141) (some (Operand.tmp 143)) (some (Operand.tmp 146)) none, type := 28, pos := "more.go:67", after := #[{ on := 9, ground := Ground.data }, { on := 11, ground := Ground.data }, { on := 14, ground := Ground.data }, { on := 8, ground := Ground.guard }], guard := some (8, true) }) (v := undef) rfl (by kernel_rfl) (by kernel_rfl) (by kernel_rfl) (fun _ _ _ h => h) (Or.inr ⟨by rfl, rfl⟩) hH0 ?tkr6016
              try simp only [Act.put, List.setIfInBounds_toArray, List.set_cons_zero, List.set_cons_succ]
              refine wpAnyH_take (i := 16) (oi := { dst := some 148, op := Op.convert 28 9 (Operand.tmp 147), type := 9, pos := "more.go:67", after := #[{ on := 15, ground := Ground.data }, { on := 8, ground := Ground.guard }], guard := some (8, true) }) (v := undef) rfl (by kernel_rfl) (by kernel_rfl) (by kernel_rfl) (fun _ _ _ h => h) (Or.inr ⟨by rfl, rfl⟩) hH0 ?tkr6017
              try simp only [Act.put, List.setIfInBounds_toArray, List.set_cons_zero, List.set_cons_succ]
              refine wpAnyH_take (i := 17) (oi := { dst := some 149, op := Op.move (Operand.tmp 15), type := 28, pos := "more.go:67", after := #[{ on := 8, ground := Ground.guard }], guard := some (8, true) }) (v := undef) rfl (by kernel_rfl) (by kernel_rfl) (by kernel_rfl) (fun _ _ _ h => h) (Or.inr ⟨by rfl, rfl⟩) hH0 ?tkr6018
              try simp only [Act.put, List.setIfInBounds_toArray, List.set_cons_zero, List.set_cons_succ]
              refine wpAnyH_take (i := 18) (oi := { dst := some 150, op := Op.move (Operand.tmp 18), type := 3, pos := "more.go:67", after := #[{ on := 8, ground := Ground.guard }], guard := some (8, true) }) (v := undef) rfl (by kernel_rfl) (by kernel_rfl) (by kernel_rfl) (fun _ _ _ h => h) (Or.inr ⟨by rfl, rfl⟩) hH0 ?tkr6019
              try simp only [Act.put, List.setIfInBounds_toArray, List.set_cons_zero, List.set_cons_succ]
              refine wpAnyH_take (i := 19) (oi := { dst := some 151, op := Op.binOp BinOp.mul 3 (Operand.tmp 150) (Operand.const (Value.int IntKind.i64 256)) 3, type := 3, pos := "more.go:67", after := #[{ on := 18, ground := Ground.data }, { on := 8, ground := Ground.guard }], guard := some (8, true) }) (v := undef) rfl (by kernel_rfl) (by kernel_rfl) (by kernel_rfl) (fun _ _ _ h => h) (Or.inr ⟨by rfl, rfl⟩) hH0 ?tkr6020
              try simp only [Act.put, List.setIfInBounds_toArray, List.set_cons_zero, List.set_cons_succ]
              refine wpAnyH_take (i := 20) (oi := { dst := some 152, op := Op.move (Operand.tmp 18), type := 3, pos := "more.go:67", after := #[{ on := 8, ground := Ground.guard }], guard := some (8, true) }) (v := undef) rfl (by kernel_rfl) (by kernel_rfl) (by kernel_rfl) (fun _ _ _ h => h) (Or.inr ⟨by rfl, rfl⟩) hH0 ?tkr6021
              try simp only [Act.put, List.setIfInBounds_toArray, List.set_cons_zero, List.set_cons_succ]
              refine wpAnyH_take (i := 21) (oi := { dst := some 153, op := Op.binOp BinOp.add 3 (Operand.tmp 152) (Operand.const (Value.int IntKind.i64 1)) 3, type := 3, pos := "more.go:67", after := #[{ on := 20, ground := Ground.data }, { on := 8, ground := Ground.guard }], guard := some (8, true) }) (v := undef) rfl (by kernel_rfl) (by kernel_rfl) (by kernel_rfl) (fun _ _ _ h => h) (Or.inr ⟨by rfl, rfl⟩) hH0 ?tkr6022
              try simp only [Act.put, List.setIfInBounds_toArray, List.set_cons_zero, List.set_cons_succ]
              refine wpAnyH_take (i := 22) (oi := { dst := some 154, op := Op.binOp BinOp.mul 3 (Operand.tmp 153) (Operand.const (Value.int IntKind.i64 256)) 3, type := 3, pos := "more.go:67", after := #[{ on := 21, ground := Ground.data }, { on := 8, ground := Ground.guard }], guard := some (8, true) }) (v := undef) rfl (by kernel_rfl) (by kernel_rfl) (by kernel_rfl) (fun _ _ _ h => h) (Or.inr ⟨by rfl, rfl⟩) hH0 ?tkr6023
              try simp only [Act.put, List.setIfInBounds_toArray, List.set_cons_zero, List.set_cons_succ]
              refine wpAnyH_take (i := 23) (oi := { dst := some 155, op := Op.slice 28 (Operand.tmp 149) (some (Operand.tmp 151)) (some (Operand.tmp 154)) none, type := 28, pos := "more.go:67", after := #[{ on := 17, ground := Ground.data }, { on := 19, ground := Ground.data }, { on := 22, ground := Ground.data }, { on := 8, ground := Ground.guard }], guard := some (8, true) }) (v := undef) rfl (by kernel_rfl) (by kernel_rfl) (by kernel_rfl) (fun _ _ _ h => h) (Or.inr ⟨by rfl, rfl⟩) hH0 ?tkr6024
              try simp only [Act.put, List.setIfInBounds_toArray, List.set_cons_zero, List.set_cons_succ]
              refine wpAnyH_take (i := 24) (oi := { dst := some 156, op := Op.convert 28 9 (Operand.tmp 155), type := 9, pos := "more.go:67", after := #[{ on := 23, ground := Ground.data }, { on := 8, ground := Ground.guard }], guard := some (8, true) }) (v := undef) rfl (by kernel_rfl) (by kernel_rfl) (by kernel_rfl) (fun _ _ _ h => h) (Or.inr ⟨by rfl, rfl⟩) hH0 ?tkr6025
              try simp only [Act.put, List.setIfInBounds_toArray, List.set_cons_zero, List.set_cons_succ]
              refine wpAnyH_take (i := 25) (oi := { dst := some 157, op := Op.binOp BinOp.neq 9 (Operand.tmp 148) (Operand.tmp 156) 9, type := 4, pos := "more.go:67", after := #[{ on := 16, ground := Ground.data }, { on := 24, ground := Ground.data }, { on := 8, ground := Ground.guard }], guard := some (8, true) }) (v := undef) rfl (by kernel_rfl) (by kernel_rfl) (by kernel_rfl) (fun _ _ _ h => h) (Or.inr ⟨by rfl, rfl⟩) hH0 ?tkr6026
              try simp only [Act.put, List.setIfInBounds_toArray, List.set_cons_zero, List.set_cons_succ]
              refine wpAnyH_take (i := 26) (oi := { dst := some 158, op := Op.pick (Operand.tmp 140) (Operand.tmp 157) (Operand.const (Value.bool false)), type := 4, pos := "more.go:67", after := #[{ on := 8, ground := Ground.data }, { on := 25, ground := Ground.data }], guard := none }) (v := ?tkv6027) rfl (by kernel_rfl) (by kernel_rfl) (by kernel_rfl) (fun _ _ _ h => h) (Or.inl ⟨by rfl, ?tky6027⟩) hH0 ?tkr6027
              case tky6027 => (intro w' hSw; clear hSw; go_simp; try with_reducible rfl)
              try simp only [Act.put, List.setIfInBounds_toArray, List.set_cons_zero, List.set_cons_succ]
              refine wpAnyH_done (by kernel_rfl) ?_ _
              refine NoPanic.normal ?_
              have HBE := Lib.hid (hb.out.trans (hH0.mono hb.out.size))
              have HE1 := Lib.hid (hr1.out.below (hH0.mono hs1.out))
              have HE2 := Lib.hid (hr2.out.below (hH0.mono hs2.out))
              have HE3 : Hid (w9.heap.size ≤ _) := Nat.le_trans hs1.out (hH0).size
              have HE4 : Hid (w11.heap.size ≤ _) := Nat.le_trans hs2.out (hH0).size
              go_wp2_with fail
              go_roundw
              case rel => exact ⟨k + 1, by omega, by go_num, HBE, HE1, HE2, HE3, HE4⟩
              case measure => simp [intOf]; omega
            · have e5 : ((k : Int) / 2 != 1) = true := by rw [bne_iff_ne]; omega
              have hs := sect_same HOUT.out (show k < 14 by omega) (by omega)
              have q1 := hr1.out.cut (k := 256 * k) (m := 256) (by omega)
              have q2 := hr2.out.cut (k := 256 * k) (m := 256) (by omega)
              rw [bv_drop, bv_take] at q1 q2
              rw [hs] at q2
              simp only [Option.map_some, plain_add, Nat.zero_add] at q1 q2
              generalize ((f4.sub 0 3584).drop (256 * k)).take 256 = R at q1 q2
              have HF28 : Hid (∀ W, Below wr.heap.size wr W → (Instr.sliceAt 28 (.slice (some ⟨gr, 0, none⟩) 3584 c7) (some (.int .i64 ((k : Int) * 256))) (some (.int .i64 (((k : Int) + 1) * 256))) none).run Tryd.prog W = .ok (.slice (some ⟨gr, 256 * k, none⟩) 256 (c7 - 256 * k)) W ∧ (Instr.sliceAt 28 (.slice (some ⟨gs, 0, none⟩) 3584 c11) (some (.int .i64 ((k : Int) * 256))) (some (.int .i64 (((k : Int) + 1) * 256))) none).run Tryd.prog W = .ok (.slice (some ⟨gs, 256 * k, none⟩) 256 (c11 - 256 * k)) W ∧ (Instr.slice 28 (.slice (some ⟨gr, 0, none⟩) 3584 c7) (some (.int .i64 ((k : Int) * 256))) (some (.int .i64 (((k : Int) + 1) * 256))) none).run Tryd.prog W = .ok (.slice (some ⟨gr, 256 * k, none⟩) 256 (c7 - 256 * k)) W ∧ (Instr.slice 28 (.slice (some ⟨gs, 0, none⟩) 3584 c11) (some (.int .i64 ((k : Int) * 256))) (some (.int .i64 (((k : Int) + 1) * 256))) none).run Tryd.prog W = .ok (.slice (some ⟨gs, 256 * k, none⟩) 256 (c11 - 256 * k)) W ∧ (convert 28 9 (.slice (some ⟨gr, 256 * k, none⟩) 256 (c7 - 256 * k))).run Tryd.prog W = .ok (.string ⟨R.toArray⟩) W ∧ (convert 28 9 (.slice (some ⟨gs, 256 * k, none⟩) 256 (c11 - 256 * k))).run Tryd.prog W = .ok (.string ⟨R.toArray⟩) W) := Lib.hid fun W hW =>
                ⟨sl_sectA gr c7 k W (by omega) (by omega), sl_sectA gs c11 k W (by omega) (by omega), sl_sect gr c7 k W (by omega) (by omega), sl_sect gs c11 k W (by omega) (by omega), conv_row _ q1 hs1.out W hW, conv_row _ q2 hs2.out W hW⟩
              clear hs q1 q2 hks
              go_upto_region 28 with fail
              refine wp_region_noPanic ?_
              refine wp_region_held_drew (S := (fun W => Below (wr.heap.size) wr W)) (by kernel_rfl) (Below.refl _ _).drew (fun hH0 => ?_)
              have hH0 : Below (wr.heap.size) wr wr.drew := hH0
              generalize wr.drew = wd6700 at *
              refine wpAnyH_take (i := 0) (oi := { dst := some 132, op := Op.move (Operand.tmp 18), type := 3, pos := "more.go:67", after := #[], guard := none }) (v := ?tkv6701) rfl (by kernel_rfl) (by kernel_rfl) (by kernel_rfl) (fun _ _ _ h => h) (Or.inl ⟨by rfl, ?tky6701⟩) hH0 ?tkr6701
              case tky6701 => (intro w' hSw; clear hSw; go_simp; try with_reducible rfl)
              try simp only [Act.put, List.setIfInBounds_toArray, List.set_cons_zero, List.set_cons_succ]
              refine wpAnyH_take (i := 1) (oi := { dst := some 133, op := Op.binOp BinOp.quo 3 (Operand.tmp 132) (Operand.const (Value.int IntKind.i64 2)) 3, type := 3, pos := "more.go:67", after := #[{ on := 0, ground := Ground.data }], guard := none }) (v := ?tkv6702) rfl (by kernel_rfl) (by kernel_rfl) (by kernel_rfl) (fun _ _ _ h => h) (Or.inl ⟨by rfl, ?tky6702⟩) hH0 ?tkr6702
              case tky6702 => (intro w' hSw; clear hSw; go_simp; try with_reducible rfl)
              try simp only [Act.put, List.setIfInBounds_toArray, List.set_cons_zero, List.set_cons_succ]
              refine wpAnyH_take (i := 2) (oi := { dst := some 134, op := Op.move (Operand.tmp 0), type := 3, pos := "more.go:67", after := #[], guard := none }) (v := ?tkv6703) rfl (by kernel_rfl) (by kernel_rfl) (by kernel_rfl) (fun _ _ _ h => h) (Or.inl ⟨by rfl, ?tky6703⟩) hH0 ?tkr6703
              case tky6703 => (intro w' hSw; clear hSw; go_simp; try with_reducible rfl)
              try simp only [Act.put, List.setIfInBounds_toArray, List.set_cons_zero, List.set_cons_succ]
              refine wpAnyH_take (i := 3) (oi := { dst := some 135, op := Op.binOp BinOp.sub 3 (Operand.const (Value.int IntKind.i64 1)) (Operand.tmp 134) 3, type := 3, pos := "more.go:67", after := #[{ on := 2, ground := Ground.data }], guard := none }) (v := ?tkv6704) rfl (by kernel_rfl) (by kernel_rfl) (by kernel_rfl) (fun _ _ _ h => h) (Or.inl ⟨by rfl, ?tky6704⟩) hH0 ?tkr6704
              case tky6704 => (intro w' hSw; clear hSw; go_simp; try with_reducible rfl)
              try simp only [Act.put, List.setIfInBounds_toArray, List.set_cons_zero, List.set_cons_succ]
              refine wpAnyH_take (i := 4) (oi := { dst := some 136, op := Op.binOp BinOp.mul 3 (Operand.const (Value.int IntKind.i64 2)) (Operand.tmp 135) 3, type := 3, pos := "more.go:67", after := #[{ on := 3, ground := Ground.data }], guard := none }) (v := ?tkv6705) rfl (by kernel_rfl) (by kernel_rfl) (by kernel_rfl) (fun _ _ _ h => h) (Or.inl ⟨by rfl, ?tky6705⟩) hH0 ?tkr6705
              case tky6705 => (intro w' hSw; clear hSw; go_simp; try with_reducible rfl)
              try simp only [Act.put, List.setIfInBounds_toArray, List.set_cons_zero, List.set_cons_succ]
              refine wpAnyH_take (i := 5) (oi := { dst := some 137, op := Op.binOp BinOp.add 3 (Operand.const (Value.int IntKind.i64 2)) (Operand.tmp 136) 3, type := 3, pos := "more.go:67", after := #[{ on := 4, ground := Ground.data }], guard := none }) (v := ?tkv6706) rfl (by kernel_rfl) (by kernel_rfl) (by kernel_rfl) (fun _ _ _ h => h) (Or.inl ⟨by rfl, ?tky6706⟩) hH0 ?tkr6706
              case tky6706 => (intro w' hSw; clear hSw; go_simp; try with_reducible rfl)
              try simp only [Act.put, List.setIfInBounds_toArray, List.set_cons_zero, List.set_cons_succ]
              refine wpAnyH_take (i := 6) (oi := { dst := some 138, op := Op.binOp BinOp.quo 3 (Operand.tmp 137) (Operand.const (Value.int IntKind.i64 2)) 3, type := 3, pos := "more.go:67", after := #[{ on := 5, ground := Ground.data }], guard := none }) (v := ?tkv6707) rfl (by kernel_rfl) (by kernel_rfl) (by kernel_rfl) (fun _ _ _ h => h) (Or.inl ⟨by rfl, ?tky6707⟩) hH0 ?tkr6707
              case tky6707 => (intro w' hSw; clear hSw; go_simp; try with_reducible rfl)
              try simp only [Act.put, List.setIfInBounds_toArray, List.set_cons_zero, List.set_cons_succ]
              refine wpAnyH_take (i := 7) (oi := { dst := some 139, op := Op.binOp BinOp.neq 3 (Operand.tmp 133) (Operand.tmp 138) 3, type := 4, pos := "more.go:67", after := #[{ on := 1, ground := Ground.data }, { on := 6, ground := Ground.data }], guard := none }) (v := ?tkv6708) rfl (by kernel_rfl) (by kernel_rfl) (by kernel_rfl) (fun _ _ _ h => h) (Or.inl ⟨by rfl, ?tky6708⟩) hH0 ?tkr6708
              case tky6708 => (intro w' hSw; clear hSw; go_simp; try with_reducible rfl)
              try simp only [Act.put, List.setIfInBounds_toArray, List.set_cons_zero, List.set_cons_succ]
              refine wpAnyH_take (i := 8) (oi := { dst := some 140, op := Op.move (Operand.tmp 139), type := 4, pos := "more.go:67", after := #[{ on := 7, ground := Ground.data }], guard := none }) (v := ?tkv6709) rfl (by kernel_rfl) (by kernel_rfl) (by kernel_rfl) (fun _ _ _ h => h) (Or.inl ⟨by rfl, ?tky6709⟩) hH0 ?tkr6709
              case tky6709 => (intro w' hSw; clear hSw; go_simp; try with_reducible rfl)
              try simp only [Act.put, List.setIfInBounds_toArray, List.set_cons_zero, List.set_cons_succ]
              refine wpAnyH_take (i := 9) (oi := { dst := some 141, op := Op.move (Operand.tmp 17), type := 28, pos := "more.go:67", after := #[{ on := 8, ground := Ground.guard }], guard := some (8, true) }) (v := ?tkv6710) rfl (by kernel_rfl) (by kernel_rfl) (by kernel_rfl) (fun _ _ _ h => h) (Or.inl ⟨by rfl, ?tky6710⟩) hH0 ?tkr6710
              case tky6710 => (intro w' hSw; clear hSw; go_simp; try with_reducible rfl)
              try simp only [Act.put, List.setIfInBounds_toArray, List.set_cons_zero, List.set_cons_succ]
              refine wpAnyH_take (i := 10) (oi := { dst := some 142, op := Op.move (Operand.tmp 18), type := 3, pos := "more.go:67", after := #[{ on := 8, ground := Ground.guard }], guard := some (8, true) }) (v := ?tkv6711) rfl (by kernel_rfl) (by kernel_rfl) (by kernel_rfl) (fun _ _ _ h => h) (Or.inl ⟨by rfl, ?tky6711⟩) hH0 ?tkr6711
              case tky6711 => (intro w' hSw; clear hSw; go_simp; try with_reducible rfl)
              try simp only [Act.put, List.setIfInBounds_toArray, List.set_cons_zero, List.set_cons_succ]
              refine wpAnyH_take (i := 11) (oi := { dst := some 143, op := Op.binOp BinOp.mul 3 (Operand.tmp 142) (Operand.const (Value.int IntKind.i64 256)) 3, type := 3, pos := "more.go:67", after := #[{ on := 10, ground := Ground.data }, { on := 8, ground := Ground.guard }], guard := some (8, true) }) (v := ?tkv6712) rfl (by kernel_rfl) (by kernel_rfl) (by kernel_rfl) (fun _ _ _ h => h) (Or.inl ⟨by rfl, ?tky6712⟩) hH0 ?tkr6712
              case tky6712 => (intro w' hSw; clear hSw; go_simp; try with_reducible rfl)
              try simp only [Act.put, List.setIfInBounds_toArray, List.set_cons_zero, List.set_cons_succ]
              refine wpAnyH_take (i := 12) (oi := { dst := some 144, op := Op.move (Operand.tmp 18), type := 3, pos := "more.go:67", after := #[{ on := 8, ground := Ground.guard }], guard := some (8, true) }) (v := ?tkv6713) rfl (by kernel_rfl) (by kernel_rfl) (by kernel_rfl) (fun _ _ _ h => h) (Or.inl ⟨by rfl, ?tky6713⟩) hH0 ?tkr6713
              case tky6713 => (intro w' hSw; clear hSw; go_simp; try with_reducible rfl)
              try simp only [Act.put, List.setIfInBounds_toArray, List.set_cons_zero, List.set_cons_succ]
              refine wpAnyH_take (i := 13) (oi := { dst := some 145, op := Op.binOp BinOp.add 3 (Operand.tmp 144) (Operand.const (Value.int IntKind.i64 1)) 3, type := 3, pos := "more.go:67", after := #[{ on := 12, ground := Ground.data }, { on := 8, ground := Ground.guard }], guard := some (8, true) }) (v := ?tkv6714) rfl (by kernel_rfl) (by kernel_rfl) (by kernel_rfl) (fun _ _ _ h => h) (Or.inl ⟨by rfl, ?tky6714⟩) hH0 ?tkr6714
              case tky6714 => (intro w' hSw; clear hSw; go_simp; try with_reducible rfl)
              try simp only [Act.put, List.setIfInBounds_toArray, List.set_cons_zero, List.set_cons_succ]
              refine wpAnyH_take (i := 14) (oi := { dst := some 146, op := Op.binOp BinOp.mul 3 (Operand.tmp 145) (Operand.const (Value.int IntKind.i64 256)) 3, type := 3, pos := "more.go:67", after := #[{ on := 13, ground := Ground.data }, { on := 8, ground := Ground.guard }], guard := some (8, true) }) (v := ?tkv6715) rfl (by kernel_rfl) (by kernel_rfl) (by kernel_rfl) (fun _ _ _ h => h) (Or.inl ⟨by rfl, ?tky6715⟩) hH0 ?tkr6715
              case tky6715 => (intro w' hSw; clear hSw; go_simp; try with_reducible rfl)
              try simp only [Act.put, List.setIfInBounds_toArray, List.set_cons_zero, List.set_cons_succ]
              refine wpAnyH_take (i := 15) (oi := { dst := some 147, op := Op.slice 28 (Operand.tmp 141) (some (Operand.tmp 143)) (some (Operand.tmp 146)) none, type := 28, pos := "more.go:67", after := #[{ on := 9, ground := Ground.data }, { on := 11, ground := Ground.data }, { on := 14, ground := Ground.data }, { on := 8, ground := Ground.guard }], guard := some (8, true) }) (v := ?tkv6716) rfl (by kernel_rfl) (by kernel_rfl) (by kernel_rfl) (fun _ _ _ h => h) (Or.inl ⟨by rfl, ?tky6716⟩) hH0 ?tkr6716
              case tky6716 => (intro w' hSw; have z0 := HF28.out _ hSw; clear hSw; go_simp; try with_reducible rfl)
              try simp only [Act.put, List.setIfInBounds_toArray, List.set_cons_zero, List.set_cons_succ]
              refine wpAnyH_take (i := 16) (oi := { dst := some 148, op := Op.convert 28 9 (Operand.tmp 147), type := 9, pos := "more.go:67", after := #[{ on := 15, ground := Ground.data }, { on := 8, ground := Ground.guard }], guard := some (8, true) }) (v := ?tkv6717) rfl (by kernel_rfl) (by kernel_rfl) (by kernel_rfl) (fun _ _ _ h => h) (Or.inl ⟨by rfl, ?tky6717⟩) hH0 ?tkr6717
              case tky6717 => (intro w' hSw; have z0 := HF28.out _ hSw; clear hSw; go_simp; try with_reducible rfl)
              try simp only [Act.put, List.setIfInBounds_toArray, List.set_cons_zero, List.set_cons_succ]
              refine wpAnyH_take (i := 17) (oi := { dst := some 149, op := Op.move (Operand.tmp 15), type := 28, pos := "more.go:67", after := #[{ on := 8, ground := Ground.guard }], guard := some (8, true) }) (v := ?tkv6718) rfl (by kernel_rfl) (by kernel_rfl) (by kernel_rfl) (fun _ _ _ h => h) (Or.inl ⟨by rfl, ?tky6718⟩) hH0 ?tkr6718
              case tky6718 => (intro w' hSw; clear hSw; go_simp; try with_reducible rfl)
              try simp only [Act.put, List.setIfInBounds_toArray, List.set_cons_zero, List.set_cons_succ]
              refine wpAnyH_take (i := 18) (oi := { dst := some 150, op := Op.move (Operand.tmp 18), type := 3, pos := "more.go:67", after := #[{ on := 8, ground := Ground.guard }], guard := some (8, true) }) (v := ?tkv6719) rfl (by kernel_rfl) (by kernel_rfl) (by kernel_rfl) (fun _ _ _ h => h) (Or.inl ⟨by rfl, ?tky6719⟩) hH0 ?tkr6719
              case tky6719 => (intro w' hSw; clear hSw; go_simp; try with_reducible rfl)
              try simp only [Act.put, List.setIfInBounds_toArray, List.set_cons_zero, List.set_cons_succ]
              refine wpAnyH_take (i := 19) (oi := { dst := some 151, op := Op.binOp BinOp.mul 3 (Operand.tmp 150) (Operand.const (Value.int IntKind.i64 256)) 3, type := 3, pos := "more.go:67", after := #[{ on := 18, ground := Ground.data }, { on := 8, ground := Ground.guard }], guard := some (8, true) }) (v := ?tkv6720) rfl (by kernel_rfl) (by kernel_rfl) (by kernel_rfl) (fun _ _ _ h => h) (Or.inl ⟨by rfl, ?tky6720⟩) hH0 ?tkr6720
              case tky6720 => (intro w' hSw; clear hSw; go_simp; try with_reducible rfl)
              try simp only [Act.put, List.setIfInBounds_toArray, List.set_cons_zero, List.set_cons_succ]
              refine wpAnyH_take (i := 20) (oi := { dst := some 152, op := Op.move (Operand.tmp 18), type := 3, pos := "more.go:67", after := #[{ on := 8, ground := Ground.guard }], guard := some (8, true) }) (v := ?tkv6721) rfl (by kernel_rfl) (by kernel_rfl) (by kernel_rfl) (fun _ _ _ h => h) (Or.inl ⟨by rfl, ?tky6721⟩) hH0 ?tkr6721
              case tky6721 => (intro w' hSw; clear hSw; go_simp; try with_reducible rfl)
              try simp only [Act.put, List.setIfInBounds_toArray, List.set_cons_zero, List.set_cons_succ]
              refine wpAnyH_take (i := 21) (oi := { dst := some 153, op := Op.binOp BinOp.add 3 (Operand.tmp 152) (Operand.const (Value.int IntKind.i64 1)) 3, type := 3, pos := "more.go:67", after := #[{ on := 20, ground := Ground.data }, { on := 8, ground := Ground.guard }], guard := some (8, true) }) (v := ?tkv6722) rfl (by kernel_rfl) (by kernel_rfl) (by kernel_rfl) (fun _ _ _ h => h) (Or.inl ⟨by rfl, ?tky6722⟩) hH0 ?tkr6722
              case tky6722 => (intro w' hSw; clear hSw; go_simp; try with_reducible rfl)
              try simp only [Act.put, List.setIfInBounds_toArray, List.set_cons_zero, List.set_cons_succ]
              refine wpAnyH_take (i := 22) (oi := { dst := some 154, op := Op.binOp BinOp.mul 3 (Operand.tmp 153) (Operand.const (Value.int IntKind.i64 256)) 3, type := 3, pos := "more.go:67", after := #[{ on := 21, ground := Ground.data }, { on := 8, ground := Ground.guard }], guard := some (8, true) }) (v := ?tkv6723) rfl (by kernel_rfl) (by kernel_rfl) (by kernel_rfl) (fun _ _ _ h => h) (Or.inl ⟨by rfl, ?tky6723⟩) hH0 ?tkr6723
              case tky6723 => (intro w' hSw; clear hSw; go_simp; try with_reducible rfl)
              try simp only [Act.put, List.setIfInBounds_toArray, List.set_cons_zero, List.set_cons_succ]
              refine wpAnyH_take (i := 23) (oi := { dst := some 155, op := Op.slice 28 (Operand.tmp 149) (some (Operand.tmp 151)) (some (Operand.tmp 154)) none, type := 28, pos := "more.go:67", after := #[{ on := 17, ground := Ground.data }, { on := 19, ground := Ground.data }, { on := 22, ground := Ground.data }, { on := 8, ground := Ground.guard }], guard := some (8, true) }) (v := ?tkv6724) rfl (by kernel_rfl) (by kernel_rfl) (by kernel_rfl) (fun _ _ _ h => h) (Or.inl ⟨by rfl, ?tky6724⟩) hH0 ?tkr6724
              case tky6724 => (intro w' hSw; have z0 := HF28.out _ hSw; clear hSw; go_simp; try with_reducible rfl)
              try simp only [Act.put, List.setIfInBounds_toArray, List.set_cons_zero, List.set_cons_succ]
              refine wpAnyH_take (i := 24) (oi := { dst := some 156, op := Op.convert 28 9 (Operand.tmp 155), type := 9, pos := "more.go:67", after := #[{ on := 23, ground := Ground.data }, { on := 8, ground := Ground.guard }], guard := some (8, true) }) (v := ?tkv6725) rfl (by kernel_rfl) (by kernel_rfl) (by kernel_rfl) (fun _ _ _ h => h) (Or.inl ⟨by rfl, ?tky6725⟩) hH0 ?tkr6725
              case tky6725 => (intro w' hSw; have z0 := HF28.out _ hSw; clear hSw; go_simp; try with_reducible rfl)
              try simp only [Act.put, List.setIfInBounds_toArray, List.set_cons_zero, List.set_cons_succ]
              refine wpAnyH_take (i := 25) (oi := { dst := some 157, op := Op.binOp BinOp.neq 9 (Operand.tmp 148) (Operand.tmp 156) 9, type := 4, pos := "more.go:67", after := #[{ on := 16, ground := Ground.data }, { on := 24, ground := Ground.data }, { on := 8, ground := Ground.guard }], guard := some (8, true) }) (v := ?tkv6726) rfl (by kernel_rfl) (by kernel_rfl) (by kernel_rfl) (fun _ _ _ h => h) (Or.inl ⟨by rfl, ?tky6726⟩) hH0 ?tkr6726
              case tky6726 => (intro w' hSw; clear hSw; go_simp; try with_reducible rfl)
              try simp only [Act.put, List.setIfInBounds_toArray, List.set_cons_zero, List.set_cons_succ]
              refine wpAnyH_take (i := 26) (oi := { dst := some 158, op := Op.pick (Operand.tmp 140) (Operand.tmp 157) (Operand.const (Value.bool false)), type := 4, pos := "more.go:67", after := #[{ on := 8, ground := Ground.data }, { on := 25, ground := Ground.data }], guard := none }) (v := ?tkv6727) rfl (by kernel_rfl) (by kernel_rfl) (by kernel_rfl) (fun _ _ _ h => h) (Or.inl ⟨by rfl, ?tky6727⟩) hH0 ?tkr6727
              case tky6727 => (intro w' hSw; clear hSw; go_simp; try with_reducible rfl)
              try simp only [Act.put, List.setIfInBounds_toArray, List.set_cons_zero, List.set_cons_succ]
              refine wpAnyH_done (by kernel_rfl) ?_ _
              refine NoPanic.normal ?_
              have HBE := Lib.hid (hb.out.trans (hH0.mono hb.out.size))
              have HE1 := Lib.hid (hr1.out.below (hH0.mono hs1.out))
              have HE2 := Lib.hid (hr2.out.below (hH0.mono hs2.out))
              have HE3 : Hid (w9.heap.size ≤ _) := Nat.le_trans hs1.out (hH0).size
              have HE4 : Hid (w11.heap.size ≤ _) := Nat.le_trans hs2.out (hH0).size
              go_wp2_with fail
              go_roundw
              case rel => exact ⟨k + 1, by omega, by go_num, HBE, HE1, HE2, HE3, HE4⟩
              case measure => simp [intOf]; omega
          · obtain rfl : k = 14 := by omega
            have HAW := Lib.hid (awake20_any wr (HT.out.below hb.out HT.out.1))
            clear hr1 hr2 hs1 hs2
            go_wp2_with fail
            refine HAW.out.mono ?_
            rintro e wz ⟨rfl, hbz⟩
            go_wp2_with fail
            go_ret
            exact ⟨rfl, hb.out.trans (hbz.mono hb.out.size)⟩
end Go.Proofs.YtgfdpondnkcogaaDoor
