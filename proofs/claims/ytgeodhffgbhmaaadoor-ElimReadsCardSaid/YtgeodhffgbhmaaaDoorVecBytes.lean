/- vec's Bytes, From: by contract. -/
import Derived.Test.YtgeodhffgbhmaaaDoorVecXor
import Derived.Test.YtgeodhffgbhmaaaDoorFill
namespace Go.Proofs.YtgeodhffgbhmaaaDoor.Vc
open Go.RowKit
open VecM
def byteN (X j : Nat) : Nat := X / 2 ^ (8 * j) % 2 ^ 8
theorem byteN_bit (X j i : Nat) : (byteN X j).testBit i = (decide (i < 8) && X.testBit (8 * j + i)) := by
  unfold byteN; rw [Nat.testBit_mod_two_pow, Nat.testBit_div_two_pow, Nat.add_comm]
theorem byteN_word (X j : Nat) : word X (j / 8) / 2 ^ (j % 8 * 8) % 2 ^ 8 = byteN X j := by
  apply Nat.eq_of_testBit_eq; intro i
  rw [byteN_bit, Nat.testBit_mod_two_pow, Nat.testBit_div_two_pow, word_bit]
  by_cases hi : i < 8
  · have h1 : i + j % 8 * 8 < 64 := by omega
    have h2 : 64 * (j / 8) + (i + j % 8 * 8) = 8 * j + i := by omega
    simp [hi, h1, h2]
  · simp [hi]
def byteU (X j : Nat) : UInt8 := UInt8.ofNat (byteN X j)
theorem byteU_toNat (X j : Nat) : (byteU X j).toNat = byteN X j := by
  unfold byteU byteN
  have : X / 2 ^ (8 * j) % 2 ^ 8 < 256 := Nat.mod_lt _ (by decide)
  simp
def bw (n : Nat) : Nat := (n + 7) / 8
/-- a row's bytes -/
def bl (X n : Nat) : List UInt8 := fill (bw n) (byteU X) (bw n)
theorem bl_length (X n : Nat) : (bl X n).length = bw n := fill_length _ _ _
theorem infoU8 : (Tryd.prog.info? 5).map (fun i => (i.zero, i.size, i.bytes)) = some (some (.int .u8 0), 1, 1) := by kernel_rfl
theorem madeU8 (m : Nat) (hm : m ≤ 1000000000) : ∀ w : World, (Instr.makeSlice 30 (.int .i64 (m : Int)) (.int .i64 (m : Int))).run Tryd.prog w = .ok (.slice (some ⟨w.heap.size, 0, none⟩) m m) (w.alloc (.cells (Array.replicate m (.int .u8 0)) 5)) := by
  obtain ⟨i0, hi, hz0, hz1, hz2⟩ := info_parts infoU8
  intro w
  have h := run_make (P := Tryd.prog) w 30 5 i0 (.int .u8 0) Tryd.underlying30 hi hz0 .i64 .i64 (m : Int) (m : Int) (by omega) (by omega) (by rw [hz2]; omega) (by omega)
  rw [hz1] at h
  have e : madeCells (Value.int .u8 0).cells m = Array.replicate m (.int .u8 0) := by
    apply Array.toList_inj.1
    rw [Array.toList_replicate]
    exact toList_madeCells_one (.int .u8 0) m
  simpa [e] using h
set_option maxRecDepth 100000 in
theorem bytes_nil (w : World) : Calls Tryd.prog 43 #[.pointer none] w fun e w' => e = .returned (.slice none 0 0) ∧ w = w' := by
  go_enter Tryd.func43, Tryd.ntmps43
  go_wp2_with fail
  go_ret
  exact ⟨rfl, rfl⟩
def BytesOk (l : List UInt8) (w : World) (e : Ending) (w' : World) : Prop :=
  ∃ g, e = .returned (.slice (some ⟨g, 0, none⟩) l.length l.length) ∧ Hid (w'.ownsRow w.heap.size 5 1 (.slice (some ⟨g, 0, none⟩) l.length l.length) l.length (bv l)) ∧ Hid (Below w.heap.size w w')
set_option maxRecDepth 100000 in
set_option maxHeartbeats 1600000 in
theorem bytes_any (g h n X : Nat) (w : World) (v : VecAt w g h n X) : Calls Tryd.prog 43 #[.pointer (some ⟨g, 0, none⟩)] w (BytesOk (bl X n) w) := by
  obtain ⟨cap, _, _, c0, c1⟩ := v.cells
  have hn := v.1
  have hbw : bw n ≤ 32 := by unfold bw; omega
  have HBW : Hid (((n : Int) + 7) / 8 = (bw n : Int)) := by show _ = _; unfold bw; omega
  have HV := Lib.hid v
  have hmk := madeU8 (bw n) (by omega)
  have hgl := v.lt.1
  clear v
  go_enter Tryd.func43, Tryd.ntmps43
  go_wp2_with (rw [HBW.out])
  clear hmk c0 c1
  go_loopw [16] (fun x wr => ∃ k : Nat, k ≤ bw n ∧ x = .int .i64 k ∧ Hid (wr.ownsRow w.heap.size 5 1 (.slice (some ⟨w.heap.size, 0, none⟩) (bw n) (bw n)) (bw n) (bv (fill (bw n) (byteU X) k))) ∧ Hid (Below w.heap.size w wr)) (fun x _ => bw n - (intOf x).toNat)
  case atStart =>
    refine ⟨0, by omega, rfl, ?_, (Below.refl _ _).alloc (Nat.le_refl _) _⟩
    show World.ownsRow _ _ _ _ _ _ _
    rw [fill_zero]
    have := own_lit (w := w) (base := w.heap.size) (g := w.heap.size) (n := bw n) (e := 5) (Array.replicate (bw n) (.int .u8 0)) rfl (Nat.le_refl _) (by simp) (by unfold maxLen; omega)
    simpa [bv] using this
  case round =>
    obtain ⟨k, hk, rfl, hown, hbk⟩ := hrel
    by_cases hlt : k < bw n
    · have hvr := HV.out.below hbk.out
      obtain ⟨cap3, _, _, c0, c1⟩ := hvr.cells
      have hkw : k / 8 < mw n := by unfold bw at hlt; unfold mw; omega
      have hc := hvr.at_ hkw
      have hx := word_lt X (k / 8)
      have hfz := hown.out.frozenAt k
      have hcs := (hown.out.cellAt k (by omega)).trans (bv_get _ k (by rw [fill_length]; exact hlt))
      have hst := Lib.hid ((hown.out.stored k (.int .u8 ((byteU X k).toNat : Int))).1)
      have hset := Lib.hid (bv_fill_set (bw n) (byteU X) k hlt)
      have HB := Lib.hid (byteN_word X k)
      have HU := Lib.hid (byteU_toNat X k)
      have hk32 : k < 32 := by omega
      have hkm : (k : Int) % 8 * 8 ≤ 56 := by omega
      generalize word X (k / 8) = x at *
      have HVAL : Hid ((x : Int) / 2 ^ (k % 8 * 8) % 256 = ((byteU X k).toNat : Int)) := by
        show _ = _
        rw [HU.out, ← HB.out, cast_shr]; rfl
      clear hvr
      go_wp2_with fail
      go_roundw
      case rel => exact ⟨k + 1, by omega, by go_num, by rw [HVAL.out, ← hset.out]; exact hst, by exact hbk.out.setCell (Nat.le_refl _) _⟩
      case measure => simp [intOf]; omega
    · obtain rfl : bw n = k := by omega
      go_wp2_with fail
      go_ret
      exact ⟨w.heap.size, by rw [bl_length]; rfl, by rw [bl_length]; exact hown, hbk⟩
/-- a row out of its bytes, the first k of them -/
def frN (l : List UInt8) : Nat → Nat
  | 0 => 0
  | k + 1 => frN l k ||| ((l.getD k 0).toNat * 2 ^ (8 * k))
theorem byte_lt (b : UInt8) : b.toNat < 2 ^ 8 := b.toNat_lt
theorem frN_bit (l : List UInt8) (i : Nat) : ∀ k, (frN l k).testBit i = (decide (i / 8 < k) && (l.getD (i / 8) 0).toNat.testBit (i % 8))
  | 0 => by simp [frN]
  | k + 1 => by
    show (frN l k ||| _).testBit i = _
    rw [Nat.testBit_or, frN_bit l i k, Nat.testBit_mul_two_pow]
    by_cases h1 : i / 8 < k
    · have h2 : i / 8 < k + 1 := by omega
      have h3 : ¬ (8 * k ≤ i) := by omega
      simp [h1, h2, h3]
    · by_cases h2 : i / 8 = k
      · have h3 : 8 * k ≤ i := by omega
        have h4 : i - 8 * k = i % 8 := by omega
        subst h2
        simp [h3, h4]
      · have h3 : ¬ i / 8 < k + 1 := by omega
        have h4 : (l.getD k 0).toNat.testBit (i - 8 * k) = false := Nat.testBit_lt_two_pow (Nat.lt_of_lt_of_le (byte_lt _) (Nat.pow_le_pow_right (by decide) (by omega)))
        simp only [h1, h3, h4, decide_false, Bool.false_and, Bool.or_false, Bool.and_false]
theorem frN_word (l : List UInt8) (k j : Nat) : word (frN l (k + 1)) j = if j = k / 8 then word (frN l k) j ||| ((l.getD k 0).toNat * 2 ^ (k % 8 * 8)) else word (frN l k) j := by
  show word (frN l k ||| _) j = _
  rw [word_or]
  have hb := byte_lt (l.getD k 0)
  generalize (l.getD k 0).toNat = b at *
  have e : word (b * 2 ^ (8 * k)) j = if j = k / 8 then b * 2 ^ (k % 8 * 8) else 0 := by
    apply Nat.eq_of_testBit_eq; intro i
    rw [word_bit, Nat.testBit_mul_two_pow]
    by_cases h : j = k / 8
    · rw [if_pos h, Nat.testBit_mul_two_pow]
      by_cases hi : i < 64
      · have h1 : 64 * j + i - 8 * k = i - k % 8 * 8 := by omega
        have h2 : (8 * k ≤ 64 * j + i) = (k % 8 * 8 ≤ i) := by simp only [eq_iff_iff]; omega
        simp only [h1, h2, hi, decide_true, Bool.true_and]
      · have h3 : b.testBit (i - k % 8 * 8) = false := Nat.testBit_lt_two_pow (Nat.lt_of_lt_of_le hb (Nat.pow_le_pow_right (by decide) (by omega)))
        simp [hi, h3]
    · rw [if_neg h]
      by_cases hi : i < 64
      · by_cases h1 : 8 * k ≤ 64 * j + i
        · have h3 : b.testBit (64 * j + i - 8 * k) = false := Nat.testBit_lt_two_pow (Nat.lt_of_lt_of_le hb (Nat.pow_le_pow_right (by decide) (by omega)))
          simp [h3]
        · simp [h1]
      · simp [hi]
  rw [e]
  by_cases h : j = k / 8
  · rw [if_pos h, if_pos h]
  · rw [if_neg h, if_neg h]; simp
/-- the bytes are those of a row of n bits -/
def fits (n : Nat) (l : List UInt8) : Prop := l.length = bw n ∧ (n % 8 ≠ 0 → (l.getD (bw n - 1) 0).toNat < 2 ^ (n % 8))
theorem frN_lt {n : Nat} {l : List UInt8} (h : fits n l) (k : Nat) (hk : k ≤ bw n) : frN l k < 2 ^ n := by
  apply Nat.lt_pow_two_of_testBit
  intro i hi
  rw [frN_bit]
  by_cases h1 : i / 8 < k
  · unfold bw at hk
    have h2 : n % 8 ≠ 0 := by omega
    have h3 : i / 8 = bw n - 1 := by unfold bw; omega
    have h4 := h.2 h2
    rw [← h3] at h4
    rw [Nat.testBit_lt_two_pow (Nat.lt_of_lt_of_le h4 (Nat.pow_le_pow_right (by decide) (by omega)))]
    simp
  · simp [h1]
theorem or_shift (x b s : Nat) (hx : x < 2 ^ 64) (hb : b < 2 ^ 8) (hs : s ≤ 56) : bits .or .u64 (x : Int) (IntKind.u64.wrap ((b : Int) * 2 ^ s)) = ((x ||| (b * 2 ^ s) : Nat) : Int) := by
  have h1 : b * 2 ^ s < 2 ^ 64 := by
    have h2 : 2 ^ s ≤ 2 ^ 56 := Nat.pow_le_pow_right (by decide) hs
    have h3 : b * 2 ^ s ≤ 255 * 2 ^ 56 := Nat.mul_le_mul (by omega) h2
    omega
  have e : IntKind.u64.wrap ((b : Int) * 2 ^ s) = ((b * 2 ^ s : Nat) : Int) := by
    rw [IntKind.wrap_u64, show (b : Int) * 2 ^ s = ((b * 2 ^ s : Nat) : Int) by rw [Int.natCast_mul, Int.natCast_pow]; rfl]
    generalize b * 2 ^ s = q at *
    omega
  rw [e, u64_or_nat _ _ hx h1]
def FromOk (n X : Nat) (w : World) (e : Ending) (w' : World) : Prop :=
  ∃ g h, e = .returned (.tuple #[.pointer (some ⟨g, 0, none⟩), .bool true]) ∧ w.heap.size ≤ g ∧ w.heap.size ≤ h ∧ Hid (VecAt w' g h n X) ∧ Hid (Below w.heap.size w w')
def FromNo (w : World) (e : Ending) (w' : World) : Prop := e = .returned (.tuple #[.pointer none, .bool false]) ∧ Below w.heap.size w w'
set_option maxRecDepth 100000 in
theorem from_bad (x : Int) (A : Option Addr) (m c : Nat) (w : World) (h : x < 0 ∨ 256 < x) : Calls Tryd.prog 58 #[.int .i64 x, .slice A m c] w (FromNo w) := by
  have HX := Lib.hid h
  clear h
  go_enter Tryd.func58, Tryd.ntmps58
  go_wp2_with fail
  refine (new_bad x w HX.out).mono ?_
  rintro e w' ⟨rfl, rfl⟩
  go_wp2_with fail
  go_ret2
  exact ⟨rfl, Below.refl _ _⟩
set_option maxRecDepth 100000 in
set_option maxHeartbeats 1600000 in
theorem from_no (n : Nat) (A : Option Addr) (m c B : Nat) (l : List UInt8) (w : World) (hr : Row w B A m (bv l)) (hB : B ≤ w.heap.size) (hm : m ≤ 4611686018427387904) (hn : n ≤ 256) (hf : ¬ fits n l) : Calls Tryd.prog 58 #[.int .i64 (n : Int), .slice A m c] w (FromNo w) := by
  have HR := Lib.hid hr
  have hlm := hr.blen
  have HBW : Hid (((n : Int) + 7) / 8 = (bw n : Int)) := by show _ = _; unfold bw; omega
  have hbw : bw n ≤ 32 := by unfold bw; omega
  have HN := Lib.hid (new_ok n w hn)
  clear hr
  by_cases hl : m = bw n
  · have h8 : n % 8 ≠ 0 := fun h => hf ⟨by omega, fun h' => absurd h h'⟩
    have hlast : ¬ (l.getD (bw n - 1) 0).toNat < 2 ^ (n % 8) := fun h => hf ⟨by omega, fun _ => h⟩
    have hb0 : bw n ≠ 0 := by unfold bw; omega
    obtain ⟨p, hp⟩ : ∃ p, bw n = p + 1 := ⟨bw n - 1, by omega⟩
    rw [hp] at HBW hl hlast
    have hl2 : l.length = p + 1 := by omega
    subst hl
    obtain ⟨b, o, rfl, hbB, hc⟩ := HR.out.cellAt (k := p) (by omega) (bv_get l p (by omega))
    have hx : l[p]'(by omega) = l.getD p 0 := by simp [List.getD, hl2]
    rw [hx] at hc
    rw [Nat.add_sub_cancel] at hlast
    have hbl := byte_lt (l.getD p 0)
    generalize (l.getD p 0).toNat = y at *
    have h8' : ((n : Int) % 8 != 0) = true := by simp; omega
    have hy0 : y / 2 ^ (n % 8) ≠ 0 := by
      have := Nat.div_pos (Nat.le_of_not_lt hlast) (Nat.two_pow_pos (n % 8)); omega
    have hyi : ((y : Int) / 2 ^ (n % 8) != 0) = true := by rw [cast_shr]; generalize y / 2 ^ (n % 8) = q at *; simp; omega
    have hp31 : p ≤ 31 := by omega
    clear hlast hf hx hp hbw hl2 hlm h8 hy0 hb0
    go_enter Tryd.func58, Tryd.ntmps58
    go_wp2_with fail
    refine HN.out.mono ?_
    rintro e w1 ⟨g, h1, rfl, hg, hh, hv, hb⟩
    have hcell := hb.out.cell (p := ⟨b, o + p, none⟩) (by show b < _; omega)
    rw [hc] at hcell
    go_wp2_with (rw [HBW.out])
    go_ret2
    exact ⟨rfl, hb.out⟩
  · have hne : ((m : Int) != (bw n : Int)) = true := by simp; omega
    go_enter Tryd.func58, Tryd.ntmps58
    go_wp2_with fail
    refine HN.out.mono ?_
    rintro e w1 ⟨g, h1, rfl, hg, hh, hv, hb⟩
    go_wp2_with (rw [HBW.out])
    go_ret2
    exact ⟨rfl, hb.out⟩
set_option maxRecDepth 100000 in
set_option maxHeartbeats 1600000 in
theorem from_ok (n : Nat) (A : Option Addr) (m c B : Nat) (l : List UInt8) (w : World) (hr : Row w B A m (bv l)) (hB : B ≤ w.heap.size) (hm : m ≤ 4611686018427387904) (hn : n ≤ 256) (hf : fits n l) : Calls Tryd.prog 58 #[.int .i64 (n : Int), .slice A m c] w (FromOk n (frN l (bw n)) w) := by
  have HR := Lib.hid hr
  have hlm := hr.blen
  have HBW : Hid (((n : Int) + 7) / 8 = (bw n : Int)) := by show _ = _; unfold bw; omega
  have hbw : bw n ≤ 32 := by unfold bw; omega
  have HN := Lib.hid (new_ok n w hn)
  have HLT := Lib.hid (fun k (hk : k ≤ bw n) => frN_lt hf k hk)
  have HL := Lib.hid hlm
  have hmb : bw n = m := by have := hf.1; omega
  rw [hmb] at HBW hbw HLT ⊢
  have hmw : ∀ k, k < m → k / 8 < mw n := by intro k hk; unfold bw at hmb; unfold mw; omega
  have HMW := Lib.hid hmw
  have HF := Lib.hid hf
  have HMB := Lib.hid hmb
  clear hr hlm hf hmw hmb
  have hlast : n % 8 = 0 ∨ (((n : Int) % 8 != 0) = true ∧ ∃ b o p y, A = some ⟨b, o, none⟩ ∧ b < B ∧ m = p + 1 ∧ w.cell? ⟨b, o + p, none⟩ = some (.int .u8 ((y : Nat) : Int)) ∧ y < 2 ^ 8 ∧ ((y : Int) / 2 ^ (n % 8) != 0) = false) := by
    by_cases h8 : n % 8 = 0
    · exact .inl h8
    · right
      have hb0 : bw n ≠ 0 := by unfold bw; omega
      have hmb := HMB.out
      obtain ⟨p, hp⟩ : ∃ p, m = p + 1 := ⟨m - 1, by omega⟩
      have hll := HL.out
      obtain ⟨b, o, rfl, hbB, hc⟩ := HR.out.cellAt (k := p) (by omega) (bv_get l p (by omega))
      have hx : l[p]'(by omega) = l.getD p 0 := by simp [List.getD, show p < l.length by omega]
      rw [hx] at hc
      have hy := HF.out.2 h8
      rw [hmb, hp, Nat.add_sub_cancel] at hy
      refine ⟨by simp; omega, b, o, p, _, rfl, hbB, hp, hc, byte_lt _, ?_⟩
      rw [cast_shr, Nat.div_eq_of_lt hy]; rfl
  rcases hlast with h8 | ⟨h8', b, o, p, y, rfl, hbB, hp, hc, hbl, hyi⟩
  · have h8' : ((n : Int) % 8 != 0) = false := by simp; omega
    go_enter Tryd.func58, Tryd.ntmps58
    go_wp2_with fail
    refine HN.out.mono ?_
    rintro e w1 ⟨g, h1, rfl, hg, hh, hv, hb⟩
    go_wp2_with (rw [HBW.out])
    clear h8' h8
    go_loopw [38] (fun x wr => ∃ k : Nat, k ≤ m ∧ x = .int .i64 k ∧ Hid (VecAt wr g h1 n (frN l k)) ∧ Hid (Below w.heap.size w wr)) (fun x _ => m - (intOf x).toNat)
    case atStart => exact ⟨0, by omega, rfl, hv, hb⟩
    case round =>
      obtain ⟨k, hk, rfl, hvk, hbk⟩ := hrel
      by_cases hlt : k < m
      · have hkw := HMW.out k hlt
        obtain ⟨cap3, _, _, c0, c1⟩ := hvk.out.cells
        have e1 := hvk.out.at_ hkw
        have hf := hvk.out.frozen (k / 8)
        have hx := word_lt (frN l k) (k / 8)
        have hll := HL.out
        obtain ⟨b2, o2, e2, hbB2, hc2⟩ := (HR.out.below (hbk.out.mono hB)).cellAt hlt (bv_get l k (by omega))
        subst e2
        have hxx : l[k]'(by omega) = l.getD k 0 := by simp [List.getD, show k < l.length by omega]
        rw [hxx] at hc2
        have hy := byte_lt (l.getD k 0)
        have hs56 : k % 8 * 8 ≤ 56 := by omega
        have hs56' : (k : Int) % 8 * 8 ≤ 56 := by omega
        have hk32 : k < 32 := by omega
        have HW := Lib.hid (fun j => frN_word l k j)
        have HO := Lib.hid (or_shift (word (frN l k) (k / 8)) (l.getD k 0).toNat (k % 8 * 8) hx hy hs56)
        have HST : Hid (∀ u, u = ((word (frN l k) (k / 8) ||| ((l.getD k 0).toNat * 2 ^ (k % 8 * 8)) : Nat) : Int) → VecAt (wr.setCell ⟨h1, k / 8, none⟩ (.int .u64 u)) g h1 n (frN l (k + 1))) := fun u hu => hvk.out.store hkw (HLT.out _ (by omega)) (by rw [hu, HW.out, if_pos rfl]) fun j _ hj => by rw [HW.out, if_neg hj]
        have HB2 : Hid (∀ u, Below w.heap.size w (wr.setCell ⟨h1, k / 8, none⟩ u)) := fun u => hbk.out.setCell hh u
        have hkm : (k : Int) < (m : Int) := by omega
        have hk0 : (0 : Int) ≤ (k : Int) := by omega
        have hkw' : (k : Int) / 8 < (mw n : Int) := by omega
        have hk8 : (0 : Int) ≤ (k : Int) / 8 := by omega
        have hk9 : (0 : Int) ≤ (k : Int) % 8 * 8 := by omega
        generalize word (frN l k) (k / 8) = x at *
        generalize (l.getD k 0).toNat = y at *
        clear hxx hvk HW hbB2 hll
        go_wp2_with fail
        go_region
        all_goals
          go_wp2_with fail
          go_roundw
          case rel => exact ⟨k + 1, by omega, by go_num, (HST.out _ HO.out).drew, (HB2.out _).drew⟩
          case measure => simp [intOf]; omega
      · obtain rfl : m = k := by omega
        go_wp2_with fail
        go_ret2
        exact ⟨g, h1, rfl, hg, hh, hvk, hbk⟩
  · have hp' : (m : Int) - 1 = (p : Int) := by omega
    have hp0 : (0 : Int) < (m : Int) := by omega
    have hpm : (p : Int) < (m : Int) := by omega
    have HP := Lib.hid hp
    clear hp
    go_enter Tryd.func58, Tryd.ntmps58
    go_wp2_with fail
    refine HN.out.mono ?_
    rintro e w1 ⟨g, h1, rfl, hg, hh, hv, hb⟩
    have hcell := hb.out.cell (p := ⟨b, o + p, none⟩) (by show b < _; omega)
    rw [hc] at hcell
    go_wp2_with (rw [HBW.out])
    clear hcell hc hyi h8' hp'
    go_loopw [38] (fun x wr => ∃ k : Nat, k ≤ m ∧ x = .int .i64 k ∧ Hid (VecAt wr g h1 n (frN l k)) ∧ Hid (Below w.heap.size w wr)) (fun x _ => m - (intOf x).toNat)
    case atStart => exact ⟨0, by omega, rfl, hv, hb⟩
    case round =>
      obtain ⟨k, hk, rfl, hvk, hbk⟩ := hrel
      by_cases hlt : k < m
      · have hkw := HMW.out k hlt
        obtain ⟨cap3, _, _, c0, c1⟩ := hvk.out.cells
        have e1 := hvk.out.at_ hkw
        have hf := hvk.out.frozen (k / 8)
        have hx := word_lt (frN l k) (k / 8)
        have hll := HL.out
        obtain ⟨b2, o2, e2, hbB2, hc2⟩ := (HR.out.below (hbk.out.mono hB)).cellAt hlt (bv_get l k (by omega))
        injection e2 with e2
        injection e2 with e2 e3
        subst e2 e3
        have hxx : l[k]'(by omega) = l.getD k 0 := by simp [List.getD, show k < l.length by omega]
        rw [hxx] at hc2
        have hy := byte_lt (l.getD k 0)
        have hs56 : k % 8 * 8 ≤ 56 := by omega
        have hs56' : (k : Int) % 8 * 8 ≤ 56 := by omega
        have hk32 : k < 32 := by omega
        have HW := Lib.hid (fun j => frN_word l k j)
        have HO := Lib.hid (or_shift (word (frN l k) (k / 8)) (l.getD k 0).toNat (k % 8 * 8) hx hy hs56)
        have HST : Hid (∀ u, u = ((word (frN l k) (k / 8) ||| ((l.getD k 0).toNat * 2 ^ (k % 8 * 8)) : Nat) : Int) → VecAt (wr.setCell ⟨h1, k / 8, none⟩ (.int .u64 u)) g h1 n (frN l (k + 1))) := fun u hu => hvk.out.store hkw (HLT.out _ (by omega)) (by rw [hu, HW.out, if_pos rfl]) fun j _ hj => by rw [HW.out, if_neg hj]
        have HB2 : Hid (∀ u, Below w.heap.size w (wr.setCell ⟨h1, k / 8, none⟩ u)) := fun u => hbk.out.setCell hh u
        have hkm : (k : Int) < (m : Int) := by omega
        have hk0 : (0 : Int) ≤ (k : Int) := by omega
        have hkw' : (k : Int) / 8 < (mw n : Int) := by omega
        have hk8 : (0 : Int) ≤ (k : Int) / 8 := by omega
        have hk9 : (0 : Int) ≤ (k : Int) % 8 * 8 := by omega
        generalize word (frN l k) (k / 8) = x at *
        generalize (l.getD k 0).toNat = y at *
        clear hxx hvk HW hbB2 hll
        go_wp2_with fail
        go_region
        all_goals
          go_wp2_with fail
          go_roundw
          case rel => exact ⟨k + 1, by omega, by go_num, (HST.out _ HO.out).drew, (HB2.out _).drew⟩
          case measure => simp [intOf]; omega
      · obtain rfl : m = k := by omega
        go_wp2_with fail
        go_ret2
        exact ⟨g, h1, rfl, hg, hh, hvk, hbk⟩
end Go.Proofs.YtgeodhffgbhmaaaDoor.Vc
