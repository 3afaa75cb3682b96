/- mac's Tag, Right, the layer's awake: by contracts. -/
import Derived.Test.YtcgcmfhidolohaaDoorMacPadQ
namespace Go.Proofs.YtcgcmfhidolohaaDoor.Sh
open Go.RowKit
theorem pad_any (B n c : Nat) (A : Option Addr) (l : List UInt8) (x : UInt8) (i : Int) (hi : (x.toNat : Int) = i) (w : World) (ht : Tab w) (hl : Row w B A n (bv l)) (hB : B ≤ w.heap.size) (hn2 : n ≤ 100000000000000000) :
    Calls Tryd.prog 35 #[.slice A n c, .int .u8 i] w (PadOk (padB (keyOf l) x) w) := by
  subst hi
  have hl1 := hl.blen
  by_cases h : 64 < n
  · unfold keyOf; rw [if_pos (by omega)]
    exact pad_big B n c A l x w ht hl hB h hn2
  · unfold keyOf; rw [if_neg (by omega)]
    exact pad_small B n c A l x w hl hB (by omega)
theorem keyOf_le (l : List UInt8) : (keyOf l).length ≤ 64 := by
  unfold keyOf; split
  · rw [Sha.D_length]; omega
  · omega
theorem tagOf_eq (key b : List UInt8) : tagOf key b = Sha.D (padB (keyOf key) 0x5c ++ Sha.D (padB (keyOf key) 0x36 ++ b)) := by rw [tagOf]
theorem tagOf_length (k b : List UInt8) : (tagOf k b).length = 32 := Sha.D_length _
def TagOk (l : List UInt8) (w : World) (e : Ending) (w' : World) : Prop :=
  ∃ A c, e = .returned (.slice A 32 c) ∧ Hid (w'.ownsRow w.heap.size 5 1 (.slice A 32 c) 32 (bv l)) ∧ Hid (Below w.heap.size w w')
set_option maxRecDepth 100000 in
set_option maxHeartbeats 800000 in
theorem tag_any (B1 n1 c1 : Nat) (A1 : Option Addr) (key : List UInt8) (B2 n2 c2 : Nat) (A2 : Option Addr) (b : List UInt8) (w : World) (ht : Tab w) (h1 : Row w B1 A1 n1 (bv key)) (hB1 : B1 ≤ w.heap.size) (h2 : Row w B2 A2 n2 (bv b)) (hB2 : B2 ≤ w.heap.size) (hn1 : n1 ≤ 10000000000000000) (hn2 : n2 ≤ 10000000000000000) :
    Calls Tryd.prog 24 #[.slice A1 n1 c1, .slice A2 n2 c2] w (TagOk (tagOf key b) w) := by
  have HT := Lib.hid ht
  have H1 := Lib.hid h1
  have H2 := Lib.hid h2
  have HL2 := Lib.hid h2.blen
  have HB1 := Lib.hid hB1
  have HB2 := Lib.hid hB2
  clear ht h1 h2 hB1 hB2
  go_enter Tryd.func24, Tryd.ntmps24
  go_wp2_with fail
  refine (pad_any B1 n1 c1 A1 key 0x36 _ rfl _ HT.out H1.out HB1.out (by omega)).mono ?_
  rintro e w1 ⟨A3, c3, rfl, O3, hb1⟩
  have R1 : Hid (Rows2 (w1.alloc (.cells #[.slice A3 64 c3, .slice A2 n2 c2] 23)) (w1.heap.size + 1) (some ⟨w1.heap.size, 0, none⟩) 2 [⟨A3, 64, c3, padB (keyOf key) 0x36⟩, ⟨A2, n2, c2, b⟩]) :=
    rows2_two w1 ⟨A3, 64, c3, padB (keyOf key) 0x36⟩ ⟨A2, n2, c2, b⟩ _ (Row.of_own O3.out) ((H2.out.below (hb1.out.mono HB2.out)).more (Nat.le_trans HB2.out hb1.out.size))
  have hb1' : Hid (Below w.heap.size w (w1.alloc (.cells #[.slice A3 64 c3, .slice A2 n2 c2] 23))) := hb1.out.alloc hb1.out.size _
  have hflat : Hid (flat [⟨A3, 64, c3, padB (keyOf key) 0x36⟩, ⟨A2, n2, c2, b⟩] = padB (keyOf key) 0x36 ++ b) := by show _ = _; simp [flat]
  go_wp2_with fail
  refine (rows_any (w1.heap.size + 1) 2 2 _ _ _ (HT.out.below hb1'.out HT.out.1) R1.out (by simp) (by rw [hflat.out, List.length_append, padB_length, HL2.out]; omega) (by omega)).mono ?_
  rintro e w2 ⟨A4, c4, rfl, O4, hb2⟩
  have hB2' := Lib.hid (hb1'.out.trans (hb2.out.mono hb1'.out.size))
  rw [hflat.out] at O4
  clear R1 hb1' hflat O3 hb1 hb2
  go_wp2_with fail
  refine (pad_any B1 n1 c1 A1 key 0x5c _ rfl _ (HT.out.below hB2'.out HT.out.1) (H1.out.below (hB2'.out.mono HB1.out)) (Nat.le_trans HB1.out hB2'.out.size) (by omega)).mono ?_
  rintro e w3 ⟨A5, c5, rfl, O5, hb3⟩
  have hB3 := Lib.hid (hB2'.out.trans (hb3.out.mono hB2'.out.size))
  have O4' := Lib.hid (own_below O4.out hb3.out)
  have R2 : Hid (Rows2 (w3.alloc (.cells #[.slice A5 64 c5, .slice A4 32 c4] 23)) (w3.heap.size + 1) (some ⟨w3.heap.size, 0, none⟩) 2 [⟨A5, 64, c5, padB (keyOf key) 0x5c⟩, ⟨A4, 32, c4, Sha.D (padB (keyOf key) 0x36 ++ b)⟩]) :=
    rows2_two w3 ⟨A5, 64, c5, padB (keyOf key) 0x5c⟩ ⟨A4, 32, c4, Sha.D (padB (keyOf key) 0x36 ++ b)⟩ _ (Row.of_own O5.out) (Row.of_own O4'.out)
  have hB3' : Hid (Below w.heap.size w (w3.alloc (.cells #[.slice A5 64 c5, .slice A4 32 c4] 23))) := hB3.out.alloc hB3.out.size _
  have hflat : Hid (flat [⟨A5, 64, c5, padB (keyOf key) 0x5c⟩, ⟨A4, 32, c4, Sha.D (padB (keyOf key) 0x36 ++ b)⟩] = padB (keyOf key) 0x5c ++ Sha.D (padB (keyOf key) 0x36 ++ b)) := by show _ = _; simp [flat]
  clear O4 O4' O5 hb3
  go_wp2_with fail
  refine (rows_any (w3.heap.size + 1) 2 2 _ _ _ (HT.out.below hB3'.out HT.out.1) R2.out (by simp) (by rw [hflat.out, List.length_append, padB_length, Sha.D_length]; omega) (by omega)).mono ?_
  rintro e w4 ⟨A6, c6, rfl, O6, hb4⟩
  have hB4 := Lib.hid (hB3'.out.trans (hb4.out.mono hB3'.out.size))
  rw [hflat.out] at O6
  have hfin := Lib.hid (own_base O6.out hB3'.out.size)
  go_wp2_with fail
  go_ret
  rw [← tagOf_eq] at hfin
  exact ⟨A6, c6, rfl, hfin, hB4⟩
theorem u8_or (a b : UInt8) : bits .or .u8 (a.toNat : Int) (b.toNat : Int) = ((a ||| b).toNat : Int) := by
  rw [u8_or_nat _ _ (CrcM.b_lt _) (CrcM.b_lt _), ← UInt8.toNat_or]
/-- what has been found wrong behind k bytes -/
def wrongTo (l m : List UInt8) : Nat → UInt8
  | 0 => 0
  | k + 1 => wrongTo l m k ||| (l.getD k 0 ^^^ m.getD k 0)
theorem or_zero (a b : UInt8) : a ||| b = 0 ↔ a = 0 ∧ b = 0 := by
  constructor
  · intro h
    have h' := congrArg UInt8.toNat h
    rw [UInt8.toNat_or] at h'
    have h0 : (0 : UInt8).toNat = 0 := rfl
    rw [h0] at h'
    have e1 : a.toNat ≤ a.toNat ||| b.toNat := Nat.left_le_or
    have e2 : b.toNat ≤ a.toNat ||| b.toNat := Nat.right_le_or
    exact ⟨UInt8.toNat_inj.1 (by rw [h0]; omega), UInt8.toNat_inj.1 (by rw [h0]; omega)⟩
  · rintro ⟨rfl, rfl⟩; rfl
theorem xor_zero' (a b : UInt8) : a ^^^ b = 0 ↔ a = b := by
  constructor
  · intro h
    have h' := congrArg UInt8.toNat h
    rw [UInt8.toNat_xor] at h'
    have h0 : (0 : UInt8).toNat = 0 := rfl
    rw [h0] at h'
    refine UInt8.toNat_inj.1 ?_
    have := congrArg (· ^^^ b.toNat) h'
    simpa [Nat.xor_assoc] using this
  · rintro rfl; exact UInt8.xor_self
theorem wrong_zero (l m : List UInt8) (k : Nat) : wrongTo l m k = 0 ↔ ∀ i, i < k → l.getD i 0 = m.getD i 0 := by
  induction k with
  | zero => exact ⟨fun _ i h => absurd h (by omega), fun _ => rfl⟩
  | succ k ih =>
    rw [wrongTo, or_zero, ih, xor_zero']
    constructor
    · rintro ⟨h1, h2⟩ i hi
      by_cases e : i = k
      · subst e; exact h2
      · exact h1 i (by omega)
    · exact fun h => ⟨fun i hi => h i (by omega), h k (by omega)⟩
theorem wrong_eq (l m : List UInt8) (h : l.length = m.length) : (wrongTo l m l.length = 0) ↔ l = m := by
  rw [wrong_zero]
  constructor
  · intro hk
    apply List.ext_getElem h
    intro i h1 h2
    have := hk i h1
    simpa [List.getD_eq_getElem?_getD, h1, h2] using this
  · rintro rfl; exact fun _ _ => rfl
set_option maxRecDepth 100000 in
set_option maxHeartbeats 800000 in
theorem right_other (B1 n1 c1 : Nat) (A1 : Option Addr) (key : List UInt8) (B2 n2 c2 : Nat) (A2 : Option Addr) (b : List UInt8) (n3 c3 : Nat) (A3 : Option Addr) (w : World) (ht : Tab w) (h1 : Row w B1 A1 n1 (bv key)) (hB1 : B1 ≤ w.heap.size) (h2 : Row w B2 A2 n2 (bv b)) (hB2 : B2 ≤ w.heap.size) (hn1 : n1 ≤ 10000000000000000) (hn2 : n2 ≤ 10000000000000000) (hn3 : n3 ≠ 32) :
    Calls Tryd.prog 29 #[.slice A1 n1 c1, .slice A2 n2 c2, .slice A3 n3 c3] w fun e w' => e = .returned (.bool false) ∧ Below w.heap.size w w' := by
  have C := Lib.hid (tag_any B1 n1 c1 A1 key B2 n2 c2 A2 b w ht h1 hB1 h2 hB2 hn1 hn2)
  have hne : ((n3 : Int) != 32) = true := by simp; omega
  have hne' : ¬ (n3 : Int) = 32 := by omega
  clear ht h1 hB1 h2 hB2
  go_enter Tryd.func29, Tryd.ntmps29
  go_wp2_with fail
  refine C.out.mono ?_
  rintro e w1 ⟨A, c, rfl, O1, hb1⟩
  go_wp2_with fail
  go_ret
  exact ⟨rfl, hb1.out⟩
set_option maxRecDepth 100000 in
set_option maxHeartbeats 800000 in
theorem right_32 (B1 n1 c1 : Nat) (A1 : Option Addr) (key : List UInt8) (B2 n2 c2 : Nat) (A2 : Option Addr) (b : List UInt8) (B3 c3 : Nat) (A3 : Option Addr) (t : List UInt8) (w : World) (ht : Tab w) (h1 : Row w B1 A1 n1 (bv key)) (hB1 : B1 ≤ w.heap.size) (h2 : Row w B2 A2 n2 (bv b)) (hB2 : B2 ≤ w.heap.size) (hn1 : n1 ≤ 10000000000000000) (hn2 : n2 ≤ 10000000000000000) (h3 : Row w B3 A3 32 (bv t)) (hB3 : B3 ≤ w.heap.size) :
    Calls Tryd.prog 29 #[.slice A1 n1 c1, .slice A2 n2 c2, .slice A3 32 c3] w fun e w' => e = .returned (.bool (tagOf key b == t)) ∧ Below w.heap.size w w' := by
  have C := Lib.hid (tag_any B1 n1 c1 A1 key B2 n2 c2 A2 b w ht h1 hB1 h2 hB2 hn1 hn2)
  have H3 := Lib.hid (h3)
  have HB3 := Lib.hid hB3
  have HLT := Lib.hid (tagOf_length key b)
  have HL3 := Lib.hid h3.blen
  clear ht h1 hB1 h2 hB2 h3 hB3
  generalize tagOf key b = want at *
  go_enter Tryd.func29, Tryd.ntmps29
  go_wp2_with fail
  refine C.out.mono ?_
  rintro e w1 ⟨A, c, rfl, O1, hb1⟩
  obtain ⟨g, rfl, _, hc⟩ := own_cell O1.out (by omega)
  have HC := Lib.hid hc
  have H3' := Lib.hid (H3.out.below (hb1.out.mono HB3.out))
  clear hc O1 C H3
  go_wp2_with fail
  go_loop [8, 21] (fun v i => ∃ k : Nat, k ≤ 32 ∧ i = .int .i64 k ∧ v = .int .u8 ((wrongTo want t k).toNat : Int)) (fun _ i => 32 - (intOf i).toNat)
  case atStart => exact ⟨0, by omega, rfl, rfl⟩
  case round =>
    obtain ⟨k, hk, rfl, rfl⟩ := hrel
    by_cases hlt : k < 32
    · have hcell := HC.out k hlt
      obtain ⟨b3, o3, rfl, _, hl3, hcell3⟩ := H3'.out.byteAt hlt
      have e3 : t[k] = t.getD k 0 := by rw [List.getD_eq_getElem?_getD, List.getElem?_eq_getElem hl3]; rfl
      rw [e3] at hcell3
      have HX := Lib.hid (xor_int (want.getD k 0) (t.getD k 0))
      have HO := Lib.hid (u8_or (wrongTo want t k) (want.getD k 0 ^^^ t.getD k 0))
      have HN : Hid (wrongTo want t (k + 1) = wrongTo want t k ||| (want.getD k 0 ^^^ t.getD k 0)) := rfl
      have k32 : (k : Int) < 32 := by omega
      clear e3
      generalize wrongTo want t k = wk at *
      generalize want.getD k 0 = y at *
      generalize t.getD k 0 = z at *
      go_wp2_with fail
      go_round
      case rel => exact ⟨k + 1, by omega, by go_num, by rw [HX.out, HO.out, HN.out]⟩
      case measure => simp [intOf]; omega
    · obtain rfl : 32 = k := by omega
      have hw := wrong_eq want t (by rw [HLT.out, HL3.out])
      rw [HLT.out] at hw
      by_cases he : want = t
      · have e1 : wrongTo want t 32 = 0 := hw.2 he
        rw [e1]
        have HE := Lib.hid he
        clear hw he e1
        go_wp2_with fail
        go_ret
        exact ⟨by rw [HE.out, beq_self_eq_true]; rfl, hb1.out⟩
      · have e1 : ¬ wrongTo want t 32 = 0 := fun h => he (hw.1 h)
        have e2 : (((wrongTo want t 32).toNat : Int) == 0) = false := by
          have : (wrongTo want t 32).toNat ≠ 0 := fun h => e1 (UInt8.toNat_inj.1 h)
          simp; omega
        have HE : Hid ((want == t) = false) := by show _ = _; simpa using he
        clear hw he e1
        generalize (wrongTo want t 32).toNat = q at *
        go_wp2_with fail
        go_ret
        exact ⟨by rw [HE.out]; rfl, hb1.out⟩
set_option maxRecDepth 100000 in
theorem t_jefe : tagOf [74, 101, 102, 101] [119, 104, 97, 116, 32, 100, 111, 32, 121, 97, 32, 119, 97, 110, 116, 32, 102, 111, 114, 32, 110, 111, 116, 104, 105, 110, 103, 63] = [91, 220, 193, 70, 191, 96, 117, 78, 106, 4, 36, 38, 8, 149, 117, 199, 90, 0, 63, 8, 157, 39, 57, 131, 157, 236, 88, 185, 100, 236, 56, 67] := by decide +kernel
end Go.Proofs.YtcgcmfhidolohaaDoor.Sh
