/- FlashTwice: to program the same bytes once more changes nothing; erased it is blank; programmed in two halves it is as at once. For every input, no condition. -/
import Derived.Test.YtnamiiofefbmmaaFlAwake
import Derived.Test.YtnamiiofefbmmaaFlashFuse
import Derived.Deep.RegionWith
import Derived.Deep.CutBlock
import Derived.Deep.DeepCutAuto
namespace Go.Proofs.Ytnamiiofefbmmaa
open Go.ChangeShapes Go.WideShapes Go.ChangeAt Go.RowKit
theorem bsAll_halves (bs : Nat → UInt8) (a k : Nat) (l : List UInt8) (hk : k ≤ l.length) : bsAll (bsAll bs a (l.take k)) (a + k) (l.drop k) = bsAll bs a l := by
  funext i
  unfold bsAll
  simp only [List.length_take, List.length_drop, Nat.min_eq_left hk]
  by_cases h1 : a + k ≤ i ∧ i < a + k + (l.length - k)
  · rw [if_pos h1, if_neg (by omega), if_pos (by omega)]
    congr 1
    obtain ⟨j, rfl⟩ : ∃ j, i = a + k + j := ⟨i - (a + k), by omega⟩
    rw [show a + k + j - (a + k) = j by omega, show a + k + j - a = k + j by omega]
    simp [List.getD]
  · rw [if_neg h1]
    by_cases h2 : a ≤ i ∧ i < a + k
    · rw [if_pos h2, if_pos (by omega)]
      congr 1
      obtain ⟨j, rfl⟩ : ∃ j, i = a + j := ⟨i - a, by omega⟩
      rw [Nat.add_sub_cancel_left]
      simp [List.getD, show j < k by omega]
    · rw [if_neg h2, if_neg (by omega)]
theorem bsAll_twice (bs : Nat → UInt8) (a : Nat) (l : List UInt8) : bsAll (bsAll bs a l) a l = bsAll bs a l := by
  funext i
  unfold bsAll
  by_cases h : a ≤ i ∧ i < a + l.length
  · rw [if_pos h, if_pos h]
    apply UInt8.toNat.inj
    rw [UInt8.toNat_and, UInt8.toNat_and, Nat.and_assoc, Nat.and_self]
  · rw [if_neg h, if_neg h]
/-- flash without a fuse, with power, of so many steps, with these bytes, never erased but where it says -/
def Free (f : Fl) (bs : Nat → UInt8) (k : Int) : Prop := f.bs = bs ∧ f.steps = k ∧ f.there = false ∧ f.down = false ∧ f.left = 0 ∧ f.wear = 9
theorem Free.prog {f : Fl} {bs : Nat → UInt8} {k : Int} (h : Free f bs k) (a : Nat) (l : List UInt8) : ∃ f', f.prog a l = (f', 0) ∧ Free f' (bsAll bs a l) (k + l.length) ∧ f'.er = f.er := by
  obtain ⟨h1, h2, h3, h4, h5, h6⟩ := h
  refine ⟨_, Fl.prog_free l f a h3, ⟨?_, ?_, h3, h4, h5, h6⟩, rfl⟩
  · rw [← h1]; rfl
  · show f.steps + _ = _; rw [h2]
theorem Free.call {f : Fl} {bs : Nat → UInt8} {k : Int} (h : Free f bs k) (g a n cap B : Nat) (A : Option Addr) (l : List UInt8) (w : World) (hf : FlAt w g f) (hl : Row w B A n (bv l)) (hA : 0 < n → ∀ b o, A = some ⟨b, o, none⟩ → b ≠ g) (hB : B ≤ w.heap.size) (ha : a + n ≤ 3584)
    (hk : 0 ≤ k ∧ k ≤ 100000) (ai : Int) (hai : ai = (a : Int)) :
    Calls Try.prog 16 #[.pointer (some ⟨g, 0, none⟩), .int .i64 ai, .slice A n cap] w fun e w' => e = .returned (.int .i64 0) ∧ Hid (∃ f', Free f' (bsAll bs a l) (k + l.length) ∧ f'.er = f.er ∧ Done g f' w w') := by
  obtain ⟨f', e1, h1, h2⟩ := h.prog a l
  have hh := h
  obtain ⟨_, q2, _, q4, q5, _⟩ := hh
  have := prog_at (g := g) (a := a) (n := n) (B := B) (cap := cap) (A := A) (l := l) (f := f) (w := w) ai hai hf hl hA hB q4 ha (by rw [q2]; omega) (by rw [q2]; omega) (by rw [q5]; omega)
  rw [e1] at this
  refine this.mono ?_
  rintro e w' ⟨rfl, hd⟩
  exact ⟨rfl, f', h1, h2, hd.out⟩
def Both (gF gG : Nat) (bs : Nat → UInt8) (m : Int) (w wx : World) : Prop :=
  ∃ f1 f2, Free f1 bs m ∧ Free f2 bs m ∧ (∀ i, f1.er i = 0) ∧ FlAt wx gF f1 ∧ FlAt wx gG f2 ∧ Below w.heap.size w wx
theorem sub_same {f f' : Fl} (h : f.bs = f'.bs) (a n : Nat) : f.sub a n = f'.sub a n := by unfold Fl.sub; rw [h]
/-- an erasure without a fuse -/
theorem erase_call (g s : Nat) (f : Fl) (w : World) (si : Int) (hsi : si = (s : Int)) (hf : FlAt w g f) (hs : s < 14) (h1 : f.there = false) (h2 : f.down = false) (h3 : f.left = 0) (h4 : f.wear = 9) (h5 : f.er s = 0) (h6 : 0 ≤ f.steps ∧ f.steps ≤ 100000) :
    Calls Try.prog 18 #[.pointer (some ⟨g, 0, none⟩), .int .i64 si] w fun e w' => e = .returned (.int .i64 0) ∧ Hid (Done g ((f.wearUp s).tick.fill (256 * s) 256) w w') := by
  subst hsi
  have := erase_ok g s f w hf h2 hs (by omega) (by omega) (by omega) (by omega) (by omega)
  have e : f.erase s = ((f.wearUp s).tick.fill (256 * s) 256, 0) := by
    have q1 : (f.wearUp s).stepB = true := by unfold Fl.stepB Fl.wearUp; rw [h1]; rfl
    have q2 : (f.wearUp s).stepF = (f.wearUp s).tick := by
      unfold Fl.stepF
      rw [if_neg (by show ¬ f.there = true; rw [h1]; decide)]
    unfold Fl.erase
    rw [if_neg (by omega), if_pos q1, q2]
  rw [e] at this
  exact this
theorem allFF_of {f : Fl} {a n : Nat} (h : ∀ i, a ≤ i → i < a + n → f.bs i = 255) : allFF (f.sub a n) = true := by
  unfold allFF
  rw [List.all_eq_true]
  intro x hx
  simp only [Fl.sub, List.mem_map, List.mem_range] at hx
  obtain ⟨i, hi, rfl⟩ := hx
  rw [h _ (by omega) (by omega)]; rfl
/-- behind the first call; behind the second -/
def BothA (gF gG : Nat) (f0 : Fl) (bs : Nat → UInt8) (m : Int) (w wx : World) : Prop :=
  (∃ f1, Free f1 bs m ∧ (∀ i, f1.er i = 0) ∧ FlAt wx gF f1) ∧ FlAt wx gG f0 ∧ Below w.heap.size w wx
def BothB (gF gG : Nat) (bs : Nat → UInt8) (p m k : Nat) (L : List UInt8) (w wx : World) : Prop :=
  ∃ f1 f2, Free f1 (bsAll bs p L) m ∧ Free f2 (bsAll bs p (L.take k)) k ∧ (∀ i, f1.er i = 0) ∧ FlAt wx gF f1 ∧ FlAt wx gG f2 ∧ Below w.heap.size w wx
theorem BothA_of {gF gG : Nat} {f0 : Fl} {bs : Nat → UInt8} {m : Int} {w w2 w3 : World} (hG : FlAt w2 gG f0) (hne : gF ≠ gG) (hb : Below w.heap.size w w2) (hw : w.heap.size ≤ gF) (her : ∀ i, f0.er i = 0)
    (h : ∃ f', Free f' bs m ∧ f'.er = f0.er ∧ Done gF f' w2 w3) : BothA gF gG f0 bs m w w3 := by
  obtain ⟨f1, h1, h2, h3⟩ := h
  exact ⟨⟨f1, h1, (fun i => by rw [h2]; exact her i), h3.1⟩, hG.grown h3.2 (fun e => hne (by injection e)), hb.grown h3.2 hb.size (by intro k e; injection e with e; omega)⟩
theorem BothA_fl {gF gG : Nat} {f0 : Fl} {bs : Nat → UInt8} {m : Int} {w wx : World} (h : BothA gF gG f0 bs m w wx) : FlAt wx gG f0 := h.2.1
theorem BothA_bl {gF gG : Nat} {f0 : Fl} {bs : Nat → UInt8} {m : Int} {w wx : World} (h : BothA gF gG f0 bs m w wx) : Below w.heap.size w wx := h.2.2
theorem BothB_of {gF gG p m k : Nat} {f0 : Fl} {bs : Nat → UInt8} {L : List UInt8} {w w3 w4 : World} (hA : BothA gF gG f0 (bsAll bs p L) m w w3) (hne : gF ≠ gG) (hw : w.heap.size ≤ gG)
    (h : ∃ f', Free f' (bsAll bs p (L.take k)) k ∧ f'.er = f0.er ∧ Done gG f' w3 w4) : BothB gF gG bs p m k L w w4 := by
  obtain ⟨⟨f1, h1, h2, h3⟩, _, h5⟩ := hA
  obtain ⟨f2, g1, _, g3⟩ := h
  exact ⟨f1, f2, h1, g1, h2, h3.grown g3.2 (fun e => hne (by injection e with e; exact e.symm)), g3.1, h5.grown g3.2 h5.size (by intro k e; injection e with e; omega)⟩
theorem BothB_bl {gF gG p m k : Nat} {bs : Nat → UInt8} {L : List UInt8} {w wx : World} (h : BothB gF gG bs p m k L w wx) : Below w.heap.size w wx := by
  obtain ⟨_, _, _, _, _, _, _, h⟩ := h; exact h
theorem prog_g2 {gF gG p m k cap' : Nat} {A' : Option Addr} {bs : Nat → UInt8} {L : List UInt8} {w W : World} (hB : BothB gF gG bs p m k L w W) (hkm : k ≤ m) (hpm : p + m ≤ 3584) (hL : L.length = m) (hne : gF ≠ gG) (hw : w.heap.size ≤ gG)
    (hr : Row W w.heap.size A' (m - k) (bv (L.drop k))) (hA : 0 < m - k → ∀ b o, A' = some ⟨b, o, none⟩ → b ≠ gG) :
    Calls Try.prog 16 #[.pointer (some ⟨gG, 0, none⟩), .int .i64 ((p : Int) + (k : Int)), .slice A' (m - k) cap'] W fun e w' => e = .returned (.int .i64 0) ∧ Hid (Both gF gG (bsAll bs p L) m w w') := by
  obtain ⟨f1, f2, h1, h2, h3, h4, h5, h6⟩ := hB
  refine (h2.call gG (p + k) (m - k) cap' w.heap.size A' (L.drop k) W h5 hr hA h6.size (by omega) ⟨by omega, by omega⟩ ((p : Int) + (k : Int)) (by push_cast; rfl)).mono ?_
  rintro e w' ⟨rfl, hd⟩
  obtain ⟨f3, g1, _, g3⟩ := hd.out
  refine ⟨rfl, f1, f3, h1, ?_, h3, h4.grown g3.2 (fun e => hne (by injection e with e; exact e.symm)), g3.1, h6.grown g3.2 h6.size (by intro k e; injection e with e; omega)⟩
  rw [bsAll_halves bs p k L (by omega), List.length_drop, hL] at g1
  have e : (k : Int) + ((m - k : Nat) : Int) = m := by omega
  rwa [e] at g1
set_option maxRecDepth 100000 in
set_option maxHeartbeats 6400000 in
theorem twice_walk (x : Int) (_ : -9223372036854775808 ≤ x) (_ : x ≤ 9223372036854775807) (A : Option Addr) (n cap : Nat) (l : List UInt8) (y : Int) (_ : -9223372036854775808 ≤ y) (_ : y ≤ 9223372036854775807) (w : World) (hl : Row w w.heap.size A n (bv l)) (hnc : n ≤ cap) :
    Calls Try.prog 8 #[.int .i64 x, .slice A n cap, .int .i64 y] w fun e w' => e = .returned (.bool true) ∧ Below w.heap.size w w' := by
  rename_i q1 q2 q3 q4
  clear q1 q2 q3 q4
  by_cases hbig : 250 < n
  · go_enter Try.func8, Try.ntmps8
    go_wp2_with fail
    refine (awake16_any _).mono ?_
    rintro e w4 ⟨rfl, hb4⟩
    go_wp2_with fail
    go_ret
    exact ⟨rfl, hb4⟩
  obtain ⟨p, hp, hP⟩ := pick_in x 3584 (by omega) (by omega)
  obtain ⟨m, hm1, hm2, hmm⟩ : ∃ m : Nat, m ≤ n ∧ p + m ≤ 3584 ∧ (m = n ∨ (m < n ∧ (m : Int) = 3584 - p)) := by
    by_cases h : p + n ≤ 3584
    · exact ⟨n, Nat.le_refl _, h, .inl rfl⟩
    · exact ⟨3584 - p, by omega, by omega, .inr ⟨by omega, by omega⟩⟩
  obtain ⟨k, hk, hK⟩ := pick_in y ((m : Int) + 1) (by omega) (by omega)
  have HP := Lib.hid hP
  have HK := Lib.hid hK
  have HM := Lib.hid hmm
  have hn250 : n ≤ 250 := by omega
  have hrow : Row w w.heap.size A m (bv (l.take m)) := by have := hl.head (k := m) hm1; rwa [bv_take] at this
  have hLl : (l.take m).length = m := hrow.blen
  generalize l.take m = L at *
  have HROW := Lib.hid hrow
  have HLL := Lib.hid hLl
  clear hP hK hmm hl hrow hLl
  go_enter Try.func8, Try.ntmps8
  go_upto_region 4 with (rw [HP.out])
  go_cut [1] (fun s wx => s = .slice A m cap ∧ wx = w)
  case first =>
    rcases HM.out with h | ⟨h1, h2⟩
    · have hle : (n : Int) ≤ 3584 - p := by omega
      subst h
      go_wp2_with fail
      go_meet
      case rel => exact ⟨rfl, rfl⟩
    · have hle : 3584 - (p : Int) < n := by omega
      have hmc : (m : Int) ≤ cap := by omega
      have H2 := Lib.hid h2.symm
      clear h2
      go_wp2_with (rw [H2.out])
      go_meet
      case rel => exact ⟨rfl, rfl⟩
  case rest =>
  obtain ⟨rfl, hwc⟩ := hcut
  have hwc2 := hwc.symm
  clear hwc
  subst hwc2
  clear HM
  go_upto_region 6 with (rw [HK.out])
  go_wp2_with fail
  refine (new_any 9 w ⟨by omega, by omega⟩).mono ?_
  rintro e w1 ⟨gF, rfl, hgF, hF, hb1⟩
  go_wp2_with fail
  refine (new_any 9 w1 ⟨by omega, by omega⟩).mono ?_
  rintro e w2 ⟨gG, rfl, hgG, hG, hb2⟩
  have hfree : Free ((flNew 9).fill 0 3584) (((flNew 9).fill 0 3584).bs) 0 := ⟨rfl, rfl, rfl, rfl, rfl, rfl⟩
  have her : ∀ i, ((flNew 9).fill 0 3584).er i = 0 := fun _ => rfl
  have hff : ∀ i, i < 3584 → ((flNew 9).fill 0 3584).bs i = 255 := fun i hi => by show (if 0 ≤ i ∧ i < 0 + 3584 then (255 : UInt8) else 0) = 255; rw [if_pos (by omega)]
  generalize (flNew 9).fill 0 3584 = f0 at *
  have HFF := Lib.hid hff
  generalize hbs : f0.bs = bs at *
  have HFR := Lib.hid hfree
  have HER := Lib.hid her
  have HF2 := Lib.hid (hF.out.below hb2.out)
  have hne : gF ≠ gG := by have := hF.out.lt; omega
  have HB2 := Lib.hid (hb1.out.trans (hb2.out.mono hb1.out.size))
  have HW := Lib.hid hgF
  have HWG : Hid (w.heap.size ≤ gG) := by show w.heap.size ≤ gG; have := hb1.out.size; omega
  have HNE := Lib.hid hne
  have HG2 := Lib.hid hG.out
  have hAF : Hid (∀ g, w.heap.size ≤ g → 0 < m → ∀ b o, A = some ⟨b, o, none⟩ → b ≠ g) := by
    intro g hg h0 b o e
    obtain ⟨b', o', e', hb', _⟩ := HROW.out.2 h0
    rw [e'] at e
    injection e with e
    injection e with e1
    omega
  have hkm : k ≤ m := by omega
  have hk0 : (0 : Int) ≤ (k : Int) := by omega
  have hkc : (k : Int) ≤ (cap : Int) := by omega
  have hkm' : (k : Int) ≤ (m : Int) := by omega
  clear hF hG hb1 hb2 hff hfree her hbs hne hgF hgG
  go_upto_region 7 with fail
  go_cut [10, 11, 12] (fun a b c wx => a = .int .i64 0 ∧ b = .int .i64 0 ∧ c = .int .i64 0 ∧ Hid (Both gF gG (bsAll bs p L) m w wx))
  case first =>
    have hpf : ∀ W, FlAt W gF f0 → Row W w.heap.size A m (bv L) → w.heap.size ≤ W.heap.size → Calls Try.prog 16 #[.pointer (some ⟨gF, 0, none⟩), .int .i64 (p : Int), .slice A m cap] W fun e w' => e = .returned (.int .i64 0) ∧ Hid (∃ f', Free f' (bsAll bs p L) (m : Int) ∧ f'.er = f0.er ∧ Done gF f' W w') :=
      fun W h hr hB => by
        have := HFR.out.call gF p m cap w.heap.size A L W h hr (hAF.out gF HW.out) hB hm2 ⟨by omega, by omega⟩ (p : Int) rfl
        rwa [HLL.out, Int.zero_add] at this
    have hpg : ∀ W, FlAt W gG f0 → Row W w.heap.size A m (bv L) → w.heap.size ≤ W.heap.size → Calls Try.prog 16 #[.pointer (some ⟨gG, 0, none⟩), .int .i64 (p : Int), .slice A k cap] W fun e w' => e = .returned (.int .i64 0) ∧ Hid (∃ f', Free f' (bsAll bs p (L.take k)) (k : Int) ∧ f'.er = f0.er ∧ Done gG f' W w') :=
      fun W h hr hB => by
        have := HFR.out.call gG p k cap w.heap.size A (L.take k) W h (by have := hr.head (k := k) hkm; rwa [bv_take] at this) (fun h0 => hAF.out gG HWG.out (by omega)) hB (by omega) ⟨by omega, by omega⟩ (p : Int) rfl
        rwa [List.length_take, HLL.out, Nat.min_eq_left hkm, Int.zero_add] at this
    have HPF := Lib.hid hpf
    have HPG := Lib.hid hpg
    clear hpf hpg
    have hpk : IntKind.i64.wrap ((p : Int) + (k : Int)) = (p : Int) + (k : Int) := IntWalk.i64_in _ ⟨by omega, by omega⟩
    have HFD : Hid (FlAt w2.drew gF f0) := HF2.out
    have HGD : Hid (FlAt w2.drew gG f0) := HG2.out
    have HBD : Hid (Below w.heap.size w w2.drew) := HB2.out.drew
    have HRD : Hid (Row w2.drew w.heap.size A m (bv L)) := HROW.out.below HBD.out
    by_cases hck : cap = k
    · subst hck
      have hpg2 : ∀ W, BothB gF gG bs p m cap L w W → Calls Try.prog 16 #[.pointer (some ⟨gG, 0, none⟩), .int .i64 ((p : Int) + (cap : Int)), .slice A (m - cap) 0] W fun e w' => e = .returned (.int .i64 0) ∧ Hid (Both gF gG (bsAll bs p L) m w w') := by
        intro W hB
        have hmk : m = cap := by omega
        have := prog_g2 (A' := A) (cap' := 0) (bs := bs) (L := L) (w := w) hB hkm hm2 HLL.out HNE.out HWG.out (by rw [show m - cap = 0 by omega]; have e : L.drop cap = [] := List.drop_of_length_le (by rw [HLL.out]; omega); rw [e]; exact Row.nil _ _ _) (fun h0 => by omega)
        exact this
      have HPG2 := Lib.hid hpg2
      clear hpg2
      go_region_with (first
        | (go_at_call 16; (with_reducible refine (HPF.out _ HFD.out HRD.out HBD.out.size).mono ?_); rintro e w3 ⟨rfl, hdF⟩; have HGA := Lib.hid (BothA_of HGD.out HNE.out HBD.out HW.out HER.out hdF.out))
        | (go_at_call 16; (with_reducible refine (HPG.out _ (BothA_fl HGA.out) (HROW.out.below (BothA_bl HGA.out)) (BothA_bl HGA.out).size).mono ?_); rintro e w4 ⟨rfl, hdG⟩; have HGB := Lib.hid (BothB_of HGA.out HNE.out HWG.out hdG.out))
        | (go_at_call 16; (with_reducible refine (HPG2.out _ HGB.out).mono ?_); rintro e w5 ⟨rfl, hdH⟩))
      all_goals
        go_wp2_with fail
        go_meet
        case rel => exact ⟨rfl, rfl, rfl, hdH⟩
    · have hpg3 : ∀ A', A' = (A.map fun x => x.add k) → ∀ W, BothB gF gG bs p m k L w W → Calls Try.prog 16 #[.pointer (some ⟨gG, 0, none⟩), .int .i64 ((p : Int) + (k : Int)), .slice A' (m - k) (cap - k)] W fun e w' => e = .returned (.int .i64 0) ∧ Hid (Both gF gG (bsAll bs p L) m w w') := by
        intro A' hA' W hB
        have hr : Row W w.heap.size A' (m - k) (bv (L.drop k)) := by
          have hbw := BothB_bl hB
          have := (HROW.out.below hbw).tail (k := k) (cap := cap) hkm (by omega)
          rw [if_neg hck, bv_drop] at this
          rw [hA']
          exact this
        clear hA'
        have hne2 : 0 < m - k → ∀ b o, A' = some ⟨b, o, none⟩ → b ≠ gG := by
          intro h0 b o e
          obtain ⟨b', o', e', hb', _⟩ := hr.2 h0
          have e2 := e'.symm.trans e
          injection e2 with e2
          injection e2 with e1
          have := HWG.out
          omega
        have hll := HLL.out
        have hne3 := HNE.out
        have hwg := HWG.out
        clear HLL HNE HWG HROW HFF HFR HER HF2 HB2 HW HG2 hAF HPF HPG HFD HGD HBD HRD hpk hck
        exact prog_g2 hB hkm hm2 hll hne3 hwg hr hne2
      have hpg2 := hpg3 _ rfl
      clear hpg3
      have HPG2 := Lib.hid hpg2
      clear hpg2
      go_region_with (first
        | (go_at_call 16; (with_reducible refine (HPF.out _ HFD.out HRD.out HBD.out.size).mono ?_); rintro e w3 ⟨rfl, hdF⟩; have HGA := Lib.hid (BothA_of HGD.out HNE.out HBD.out HW.out HER.out hdF.out))
        | (go_at_call 16; (with_reducible refine (HPG.out _ (BothA_fl HGA.out) (HROW.out.below (BothA_bl HGA.out)) (BothA_bl HGA.out).size).mono ?_); rintro e w4 ⟨rfl, hdG⟩; have HGB := Lib.hid (BothB_of HGA.out HNE.out HWG.out hdG.out))
        | (go_at_call 16; (with_reducible refine (HPG2.out _ HGB.out).mono ?_); rintro e w5 ⟨rfl, hdH⟩))
      all_goals
        go_wp2_with fail
        go_meet
        case rel => exact ⟨rfl, rfl, rfl, hdH⟩
  case rest =>
    obtain ⟨rfl, rfl, rfl, hboth⟩ := hcut
    obtain ⟨f1, f2, h1, h2, h3, h4, h5, h6⟩ := hboth.out
    have HF1 := Lib.hid h4
    have HG1 := Lib.hid h5
    have HB3 := Lib.hid h6
    have H1 := Lib.hid h1
    have H3 := Lib.hid h3
    have hss : f2.sub 0 3584 = f1.sub 0 3584 := sub_same (h2.1.trans h1.1.symm) _ _
    obtain ⟨X, hX⟩ : ∃ X, f1.sub 0 3584 = X := ⟨_, rfl⟩
    rw [hX] at hss
    have HX1 := Lib.hid hX
    have HX2 := Lib.hid hss
    have hs4 : gF < wc.heap.size := h4.lt
    clear h1 h2 h3 h4 h5 h6 hX hss hboth HF2 HG2
    go_wp2_with fail
    refine (bytes_any gF f1 wc HF1.out).mono ?_
    rw [HX1.out]
    rintro e w3 ⟨A3, n3, c3, rfl, hn3, hown3, hb3⟩
    have hk3 := run_string_row (P := Try.prog) (Row.of_own hown3) c3 29 9 5 Try.underlying29 Try.underlying5 Try.underlying9
    have HF3 := Lib.hid (HF1.out.below hb3)
    have HG3 := Lib.hid (HG1.out.below hb3)
    have HB4 := Lib.hid (HB3.out.trans (hb3.mono HB3.out.size))
    clear hown3 hb3 hn3 HB3 HF1 HG1
    go_upto_region 9 with fail
    clear hk3
    have hcall := H1.out.call gF p m cap w.heap.size A L w3 HF3.out (HROW.out.below HB4.out) (hAF.out gF HW.out) HB4.out.size hm2 ⟨by omega, by omega⟩ (p : Int) rfl
    rw [bsAll_twice, HLL.out] at hcall
    have HC := Lib.hid hcall
    clear hcall
    go_wp2_with fail
    refine HC.out.mono ?_
    rintro e w4 ⟨rfl, hd4⟩
    obtain ⟨f3, hf3, her3, hd3⟩ := hd4.out
    have HF4 := Lib.hid hd3.1
    have HG4 := Lib.hid (HG3.out.grown hd3.2 (fun e => HNE.out (by injection e)))
    have HB5 := Lib.hid (HB4.out.grown hd3.2 HB4.out.size (by intro k e; injection e with e; have := HW.out; omega))
    have H5 := Lib.hid hf3
    have HE5 : Hid (∀ i, f3.er i = 0) := fun i => by rw [her3]; exact H3.out i
    have hX3 : f3.sub 0 3584 = X := (sub_same (hf3.1.trans H1.out.1.symm) _ _).trans HX1.out
    have HX3 := Lib.hid hX3
    clear hX3 hd4 hd3 hf3 her3 HC HF3 HG3 HB4 H1 H3 HX1
    go_wp2_with fail
    refine (bytes_any gF f3 w4 HF4.out).mono ?_
    rw [HX3.out]
    rintro e w5 ⟨A5, n5, c5, rfl, hn5, hown5, hb5⟩
    have hk5 := run_string_row (P := Try.prog) (Row.of_own hown5) c5 29 9 5 Try.underlying29 Try.underlying5 Try.underlying9
    have HF5 := Lib.hid (HF4.out.below hb5)
    have HG5 := Lib.hid (HG4.out.below hb5)
    have HB6 := Lib.hid (HB5.out.trans (hb5.mono HB5.out.size))
    clear hown5 hb5 hn5 HB5 HF4 HG4
    go_wp2_with fail
    refine (bytes_any gG f2 w5 HG5.out).mono ?_
    rw [HX2.out]
    clear hk5
    rintro e w6 ⟨A6, n6, c6, rfl, hn6, hown6, hb6⟩
    have hk6 := run_string_row (P := Try.prog) (Row.of_own hown6) c6 29 9 5 Try.underlying29 Try.underlying5 Try.underlying9
    have HF6 := Lib.hid (HF5.out.below hb6)
    have HB7 := Lib.hid (HB6.out.trans (hb6.mono HB6.out.size))
    clear hown6 hb6 hn6 HB6 HF5 HG5 HX2
    go_upto_region 12 with fail
    clear hk6
    obtain ⟨_, q2, q3, q4, q5, q6⟩ := H5.out
    have HC1 := Lib.hid (erase_call gF (p / 256) f3 w6 ((p : Int) / 256) (by omega) HF6.out (by omega) q3 q4 q5 q6 (HE5.out _) ⟨by omega, by omega⟩)
    obtain ⟨f4, hf4⟩ : ∃ f4, (f3.wearUp (p / 256)).tick.fill (256 * (p / 256)) 256 = f4 := ⟨_, rfl⟩
    rw [hf4] at HC1
    have h4 : f4.there = false ∧ f4.down = false ∧ f4.left = 0 ∧ f4.wear = 9 ∧ (∀ i, i ≠ p / 256 → f4.er i = 0) ∧ (f4.steps = m + m + 1) ∧ ∀ i, 256 * (p / 256) ≤ i → i < 256 * (p / 256) + 256 → f4.bs i = 255 := by
      rw [← hf4]
      refine ⟨q3, q4, q5, q6, fun i hi => ?_, ?_, fun i hi1 hi2 => ?_⟩
      · show (if i = p / 256 then _ else f3.er i) = 0
        rw [if_neg hi]; exact HE5.out i
      · show f3.steps + 1 = _
        rw [q2]
      · show (if 256 * (p / 256) ≤ i ∧ i < 256 * (p / 256) + 256 then (255 : UInt8) else _) = 255
        rw [if_pos ⟨hi1, hi2⟩]
    have H4 := Lib.hid h4
    clear h4 hf4 q2 q3 q4 q5 q6 H5 HE5 HX3
    go_wp2_with fail
    refine HC1.out.mono ?_
    rintro e w7 ⟨rfl, hd7⟩
    have HF7 := Lib.hid hd7.out.1
    have HB8 := Lib.hid (HB7.out.grown hd7.out.2 HB7.out.size (by intro k e; injection e with e; have := HW.out; omega))
    have hff := allFF_of (f := f4) (a := 256 * (p / 256)) (n := 256) H4.out.2.2.2.2.2.2
    have HBL := Lib.hid (blank_at (g := gF) (a := 256 * (p / 256)) (n := 256) (f := f4) (w := w7) ((p : Int) / 256 * 256) 256 (by omega) rfl HF7.out H4.out.2.1 (by omega))
    rw [hff] at HBL
    clear hd7 hff HF6 HB7 HC1
    go_wp2_with fail
    refine HBL.out.mono ?_
    rintro e w8 ⟨rfl, hb8⟩
    have HF8 := Lib.hid (HF7.out.below hb8.out)
    have HB9 := Lib.hid (HB8.out.trans (hb8.out.mono HB8.out.size))
    clear hb8 HBL HF7 HB8
    by_cases hs13 : p / 256 = 13
    · have hi13 : (p : Int) / 256 = 13 := by omega
      have h13 : ((p : Int) / 256 == 13) = true := by rw [hi13]; rfl
      have hff := allFF_of (f := f4) (a := p) (n := m) (fun i h1 h2 => H4.out.2.2.2.2.2.2 i (by omega) (by omega))
      have HBL := Lib.hid (blank_at (g := gF) (a := p) (n := m) (f := f4) (w := w8) p m rfl rfl HF8.out H4.out.2.1 (by omega))
      rw [hff] at HBL
      clear hff hs13 hi13
      go_wp2_with fail
      refine HBL.out.mono ?_
      rintro e w9 ⟨rfl, hb9⟩
      have HB10 := Lib.hid (HB9.out.trans (hb9.out.mono HB9.out.size))
      clear hb9 HBL
      go_wp2_with fail
      refine (awake16_any _).mono ?_
      rintro e w10 ⟨rfl, hb10⟩
      go_wp2_with fail
      go_ret
      exact ⟨rfl, HB10.out.trans (hb10.mono HB10.out.size)⟩
    · have h13 : ((p : Int) / 256 == 13) = false := beq_eq_false_iff_ne.2 (by omega)
      have HC2 := Lib.hid (erase_call gF (p / 256 + 1) f4 w8 ((p : Int) / 256 + 1) (by omega) HF8.out (by omega) H4.out.1 H4.out.2.1 H4.out.2.2.1 H4.out.2.2.2.1 (H4.out.2.2.2.2.1 _ (by omega)) ⟨by rw [H4.out.2.2.2.2.2.1]; omega, by rw [H4.out.2.2.2.2.2.1]; omega⟩)
      obtain ⟨f5, hf5⟩ : ∃ f5, (f4.wearUp (p / 256 + 1)).tick.fill (256 * (p / 256 + 1)) 256 = f5 := ⟨_, rfl⟩
      rw [hf5] at HC2
      have h5 : f5.down = false ∧ ∀ i, p ≤ i → i < p + m → f5.bs i = 255 := by
        rw [← hf5]
        refine ⟨H4.out.2.1, fun i hi1 hi2 => ?_⟩
        show (if 256 * (p / 256 + 1) ≤ i ∧ i < 256 * (p / 256 + 1) + 256 then (255 : UInt8) else f4.bs i) = 255
        by_cases h : 256 * (p / 256 + 1) ≤ i ∧ i < 256 * (p / 256 + 1) + 256
        · rw [if_pos h]
        · rw [if_neg h]; exact H4.out.2.2.2.2.2.2 i (by omega) (by omega)
      have H5 := Lib.hid h5
      clear h5 hf5 hs13
      go_wp2_with fail
      refine HC2.out.mono ?_
      rintro e w9 ⟨rfl, hd9⟩
      have HF9 := Lib.hid hd9.out.1
      have HB10 := Lib.hid (HB9.out.grown hd9.out.2 HB9.out.size (by intro k e; injection e with e; have := HW.out; omega))
      have hff := allFF_of (f := f5) (a := p) (n := m) H5.out.2
      have HBL := Lib.hid (blank_at (g := gF) (a := p) (n := m) (f := f5) (w := w9) p m rfl rfl HF9.out H5.out.1 (by omega))
      rw [hff] at HBL
      clear hd9 hff HC2
      go_wp2_with fail
      refine HBL.out.mono ?_
      rintro e w10 ⟨rfl, hb9⟩
      have HB11 := Lib.hid (HB10.out.trans (hb9.out.mono HB10.out.size))
      clear hb9 HBL
      go_wp2_with fail
      refine (awake16_any _).mono ?_
      rintro e w11 ⟨rfl, hb10⟩
      go_wp2_with fail
      go_ret
      exact ⟨rfl, HB11.out.trans (hb10.mono HB11.out.size)⟩

set_option maxRecDepth 100000 in
theorem flashTwice_lifted (os : Os) (started : os.Started) (H : Type) (enc : TypeId × Value → H) :
    ReturnsInHanded {} Try.checked os 8 .any (Rows.flashTwiceSpec.pre6 enc Try.prog Try.f8 Rows.flashTwiceRow.domain false) (Rows.flashTwiceSpec.post enc Try.prog Try.f8 false true false false) := by
  refine law_lift (C := Try.checked) (tb := 4) Try.own started (by kernel_rfl) Try.func8
    (ChangeSpec.witness6 (enc := enc) (C := Try.checked) false ⟨#[], #[.int .i64 0, .slice none 0 0, .int .i64 0], []⟩ 8 (by kernel_rfl) (by kernel_rfl) (by kernel_rfl) (by kernel_rfl)) Try.laidOut (by kernel_rfl) rfl rfl Try.underlying4 ?_ ?_
  · intro ds hds
    match ds, hds with
    | [_, _, _], _ => rfl
  intro W base args ds p hval0 hA0 _ _ hsz0
  have hval : ∀ (j : Nat) t v, Try.f8.params[j]? = some t → args[j]? = some v → Value.okWide Try.prog W .any base t v := hval0
  have hA : DataW.TrodAll enc Try.prog W 0 (fun _ => true) true Try.f8.params.toList args.toList ds p := hA0
  rw [Try.params8] at hA hval
  obtain ⟨v0, v1, v2, d0, d1, d2, p0, p1, p2, rfl, rfl, rfl, h0, h1, h2⟩ := trodAll_three hA
  obtain ⟨x0, rfl, hx0, hy0⟩ := open_i64 Try.underlying3 (hval 0 3 v0 rfl rfl) h0
  obtain ⟨A1, n1, cap1, l1, rfl, hrow1, hnc1, hcm1⟩ := open_bytes Try.underlying29 Try.underlying5 Try.cells5 (hval 1 29 v1 rfl rfl) h1
  obtain ⟨x2, rfl, hx2, hy2⟩ := open_i64 Try.underlying3 (hval 2 3 v2 rfl rfl) h2
  exact twice_walk x0 hx0 hy0 A1 n1 cap1 l1 x2 hx2 hy2 W hrow1 hnc1

theorem flashTwice_holds : Rows.FlashTwiceSaid :=
  OpenClaim.holds_of_wide 8 Try.f8 rfl rfl rfl rfl rfl rfl rfl ⟨rfl, rfl, rfl, rfl, rfl⟩ rfl rfl rfl rfl rfl (by kernel_rfl) Try.func8 (by kernel_rfl)
    (of_decide_eq_true (by kernel_rfl)) (by unfold Func.isWrapper; rw [if_neg (of_decide_eq_false (by kernel_rfl))]; exact ⟨rfl, rfl⟩)
    (fun os started H enc _ => flashTwice_lifted os started H enc)
end Go.Proofs.Ytnamiiofefbmmaa
