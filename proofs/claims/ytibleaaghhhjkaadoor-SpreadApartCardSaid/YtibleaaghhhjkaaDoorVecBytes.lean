/- vec's Bytes, From: by contract. -/
import Derived.Test.YtibleaaghhhjkaaDoorVecXor
import Derived.Test.YtibleaaghhhjkaaDoorFill
namespace Go.Proofs.YtibleaaghhhjkaaDoor.Vc
open Go.RowKit
open VecM
def byteN (X j : Nat) : Nat := X / 2 ^ (8 * j) % 2 ^ 8
theorem byteN_bit (X j i : Nat) : (byteN X j).testBit i = (decide (i < 8) && X.testBit (8 * j + i)) := by
  unfold byteN; rw [Nat.testBit_mod_two_pow, Nat.testBit_div_two_pow, Nat.add_comm]
theorem byteN_word (X j : Nat) : word X (j / 8) / 2 ^ (j % 8 * 8) % 2 ^ 8 = byteN X j := by
  apply Nat.eq_of_testBit_eq; intro i
  rw [byteN_bit, Nat.testBit_mod_two_pow, Nat.testBit_div_two_pow, word_bit]
  by_cases hi : i < 8
  · have h1 : i + j % 8 * 8 < 64 := by omega
    have h2 : 64 * (j / 8) + (i + j % 8 * 8) = 8 * j + i := by omega
    simp [hi, h1, h2]
  · simp [hi]
def byteU (X j : Nat) : UInt8 := UInt8.ofNat (byteN X j)
theorem byteU_toNat (X j : Nat) : (byteU X j).toNat = byteN X j := by
  unfold byteU byteN
  have : X / 2 ^ (8 * j) % 2 ^ 8 < 256 := Nat.mod_lt _ (by decide)
  simp
def bw (n : Nat) : Nat := (n + 7) / 8
/-- a row's bytes -/
def bl (X n : Nat) : List UInt8 := fill (bw n) (byteU X) (bw n)
theorem bl_length (X n : Nat) : (bl X n).length = bw n := fill_length _ _ _
theorem infoU8 : (Tryd.prog.info? 5).map (fun i => (i.zero, i.size, i.bytes)) = some (some (.int .u8 0), 1, 1) := by kernel_rfl
theorem madeU8 (m : Nat) (hm : m ≤ 1000000000) : ∀ w : World, (Instr.makeSlice 65 (.int .i64 (m : Int)) (.int .i64 (m : Int))).run Tryd.prog w = .ok (.slice (some ⟨w.heap.size, 0, none⟩) m m) (w.alloc (.cells (Array.replicate m (.int .u8 0)) 5)) := by
  obtain ⟨i0, hi, hz0, hz1, hz2⟩ := info_parts infoU8
  intro w
  have h := run_make (P := Tryd.prog) w 65 5 i0 (.int .u8 0) Tryd.underlying65 hi hz0 .i64 .i64 (m : Int) (m : Int) (by omega) (by omega) (by rw [hz2]; omega) (by omega)
  rw [hz1] at h
  have e : madeCells (Value.int .u8 0).cells m = Array.replicate m (.int .u8 0) := by
    apply Array.toList_inj.1
    rw [Array.toList_replicate]
    exact toList_madeCells_one (.int .u8 0) m
  simpa [e] using h
set_option maxRecDepth 100000 in
theorem bytes_nil (w : World) : Calls Tryd.prog 36 #[.pointer none] w fun e w' => e = .returned (.slice none 0 0) ∧ w = w' := by
  go_enter Tryd.func36, Tryd.ntmps36
  go_wp2_with fail
  go_ret
  exact ⟨rfl, rfl⟩
def BytesOk (l : List UInt8) (w : World) (e : Ending) (w' : World) : Prop :=
  ∃ g, e = .returned (.slice (some ⟨g, 0, none⟩) l.length l.length) ∧ Hid (w'.ownsRow w.heap.size 5 1 (.slice (some ⟨g, 0, none⟩) l.length l.length) l.length (bv l)) ∧ Hid (Below w.heap.size w w')
set_option maxRecDepth 100000 in
set_option maxHeartbeats 1600000 in
theorem bytes_any (g h n X : Nat) (w : World) (v : VecAt w g h n X) : Calls Tryd.prog 36 #[.pointer (some ⟨g, 0, none⟩)] w (BytesOk (bl X n) w) := by
  obtain ⟨cap, _, _, c0, c1⟩ := v.cells
  have hn := v.1
  have hbw : bw n ≤ 32 := by unfold bw; omega
  have HBW : Hid (((n : Int) + 7) / 8 = (bw n : Int)) := by show _ = _; unfold bw; omega
  have HV := Lib.hid v
  have hmk := madeU8 (bw n) (by omega)
  have hgl := v.lt.1
  clear v
  go_enter Tryd.func36, Tryd.ntmps36
  go_wp2_with (rw [HBW.out])
  clear hmk c0 c1
  go_loopw [16] (fun x wr => ∃ k : Nat, k ≤ bw n ∧ x = .int .i64 k ∧ Hid (wr.ownsRow w.heap.size 5 1 (.slice (some ⟨w.heap.size, 0, none⟩) (bw n) (bw n)) (bw n) (bv (fill (bw n) (byteU X) k))) ∧ Hid (Below w.heap.size w wr)) (fun x _ => bw n - (intOf x).toNat)
  case atStart =>
    refine ⟨0, by omega, rfl, ?_, (Below.refl _ _).alloc (Nat.le_refl _) _⟩
    show World.ownsRow _ _ _ _ _ _ _
    rw [fill_zero]
    have := own_lit (w := w) (base := w.heap.size) (g := w.heap.size) (n := bw n) (e := 5) (Array.replicate (bw n) (.int .u8 0)) rfl (Nat.le_refl _) (by simp) (by unfold maxLen; omega)
    simpa [bv] using this
  case round =>
    obtain ⟨k, hk, rfl, hown, hbk⟩ := hrel
    by_cases hlt : k < bw n
    · have hvr := HV.out.below hbk.out
      obtain ⟨cap3, _, _, c0, c1⟩ := hvr.cells
      have hkw : k / 8 < mw n := by unfold bw at hlt; unfold mw; omega
      have hc := hvr.at_ hkw
      have hx := word_lt X (k / 8)
      have hfz := hown.out.frozenAt k
      have hcs := (hown.out.cellAt k (by omega)).trans (bv_get _ k (by rw [fill_length]; exact hlt))
      have hst := Lib.hid ((hown.out.stored k (.int .u8 ((byteU X k).toNat : Int))).1)
      have hset := Lib.hid (bv_fill_set (bw n) (byteU X) k hlt)
      have HB := Lib.hid (byteN_word X k)
      have HU := Lib.hid (byteU_toNat X k)
      have hk32 : k < 32 := by omega
      have hkm : (k : Int) % 8 * 8 ≤ 56 := by omega
      generalize word X (k / 8) = x at *
      have HVAL : Hid ((x : Int) / 2 ^ (k % 8 * 8) % 256 = ((byteU X k).toNat : Int)) := by
        show _ = _
        rw [HU.out, ← HB.out, cast_shr]; rfl
      clear hvr
      go_wp2_with fail
      go_roundw
      case rel => exact ⟨k + 1, by omega, by go_num, by rw [HVAL.out, ← hset.out]; exact hst, by exact hbk.out.setCell (Nat.le_refl _) _⟩
      case measure => simp [intOf]; omega
    · obtain rfl : bw n = k := by omega
      go_wp2_with fail
      go_ret
      exact ⟨w.heap.size, by rw [bl_length]; rfl, by rw [bl_length]; exact hown, hbk⟩
/-- a row out of its bytes, the first k of them -/
def frN (l : List UInt8) : Nat → Nat
  | 0 => 0
  | k + 1 => frN l k ||| ((l.getD k 0).toNat * 2 ^ (8 * k))
theorem byte_lt (b : UInt8) : b.toNat < 2 ^ 8 := b.toNat_lt
theorem frN_bit (l : List UInt8) (i : Nat) : ∀ k, (frN l k).testBit i = (decide (i / 8 < k) && (l.getD (i / 8) 0).toNat.testBit (i % 8))
  | 0 => by simp [frN]
  | k + 1 => by
    show (frN l k ||| _).testBit i = _
    rw [Nat.testBit_or, frN_bit l i k, Nat.testBit_mul_two_pow]
    by_cases h1 : i / 8 < k
    · have h2 : i / 8 < k + 1 := by omega
      have h3 : ¬ (8 * k ≤ i) := by omega
      simp [h1, h2, h3]
    · by_cases h2 : i / 8 = k
      · have h3 : 8 * k ≤ i := by omega
        have h4 : i - 8 * k = i % 8 := by omega
        subst h2
        simp [h3, h4]
      · have h3 : ¬ i / 8 < k + 1 := by omega
        have h4 : (l.getD k 0).toNat.testBit (i - 8 * k) = false := Nat.testBit_lt_two_pow (Nat.lt_of_lt_of_le (byte_lt _) (Nat.pow_le_pow_right (by decide) (by omega)))
        simp only [h1, h3, h4, decide_false, Bool.false_and, Bool.or_false, Bool.and_false]
theorem frN_word (l : List UInt8) (k j : Nat) : word (frN l (k + 1)) j = if j = k / 8 then word (frN l k) j ||| ((l.getD k 0).toNat * 2 ^ (k % 8 * 8)) else word (frN l k) j := by
  show word (frN l k ||| _) j = _
  rw [word_or]
  have hb := byte_lt (l.getD k 0)
  generalize (l.getD k 0).toNat = b at *
  have e : word (b * 2 ^ (8 * k)) j = if j = k / 8 then b * 2 ^ (k % 8 * 8) else 0 := by
    apply Nat.eq_of_testBit_eq; intro i
    rw [word_bit, Nat.testBit_mul_two_pow]
    by_cases h : j = k / 8
    · rw [if_pos h, Nat.testBit_mul_two_pow]
      by_cases hi : i < 64
      · have h1 : 64 * j + i - 8 * k = i - k % 8 * 8 := by omega
        have h2 : (8 * k ≤ 64 * j + i) = (k % 8 * 8 ≤ i) := by simp only [eq_iff_iff]; omega
        simp only [h1, h2, hi, decide_true, Bool.true_and]
      · have h3 : b.testBit (i - k % 8 * 8) = false := Nat.testBit_lt_two_pow (Nat.lt_of_lt_of_le hb (Nat.pow_le_pow_right (by decide) (by omega)))
        simp [hi, h3]
    · rw [if_neg h]
      by_cases hi : i < 64
      · by_cases h1 : 8 * k ≤ 64 * j + i
        · have h3 : b.testBit (64 * j + i - 8 * k) = false := Nat.testBit_lt_two_pow (Nat.lt_of_lt_of_le hb (Nat.pow_le_pow_right (by decide) (by omega)))
          simp [h3]
        · simp [h1]
      · simp [hi]
  rw [e]
  by_cases h : j = k / 8
  · rw [if_pos h, if_pos h]
  · rw [if_neg h, if_neg h]; simp
/-- the bytes are those of a row of n bits -/
def fits (n : Nat) (l : List UInt8) : Prop := l.length = bw n ∧ (n % 8 ≠ 0 → (l.getD (bw n - 1) 0).toNat < 2 ^ (n % 8))
theorem frN_lt {n : Nat} {l : List UInt8} (h : fits n l) (k : Nat) (hk : k ≤ bw n) : frN l k < 2 ^ n := by
  apply Nat.lt_pow_two_of_testBit
  intro i hi
  rw [frN_bit]
  by_cases h1 : i / 8 < k
  · unfold bw at hk
    have h2 : n % 8 ≠ 0 := by omega
    have h3 : i / 8 = bw n - 1 := by unfold bw; omega
    have h4 := h.2 h2
    rw [← h3] at h4
    rw [Nat.testBit_lt_two_pow (Nat.lt_of_lt_of_le h4 (Nat.pow_le_pow_right (by decide) (by omega)))]
    simp
  · simp [h1]
theorem or_shift (x b s : Nat) (hx : x < 2 ^ 64) (hb : b < 2 ^ 8) (hs : s ≤ 56) : bits .or .u64 (x : Int) (IntKind.u64.wrap ((b : Int) * 2 ^ s)) = ((x ||| (b * 2 ^ s) : Nat) : Int) := by
  have h1 : b * 2 ^ s < 2 ^ 64 := by
    have h2 : 2 ^ s ≤ 2 ^ 56 := Nat.pow_le_pow_right (by decide) hs
    have h3 : b * 2 ^ s ≤ 255 * 2 ^ 56 := Nat.mul_le_mul (by omega) h2
    omega
  have e : IntKind.u64.wrap ((b : Int) * 2 ^ s) = ((b * 2 ^ s : Nat) : Int) := by
    rw [IntKind.wrap_u64, show (b : Int) * 2 ^ s = ((b * 2 ^ s : Nat) : Int) by rw [Int.natCast_mul, Int.natCast_pow]; rfl]
    generalize b * 2 ^ s = q at *
    omega
  rw [e, u64_or_nat _ _ hx h1]
def FromOk (n X : Nat) (w : World) (e : Ending) (w' : World) : Prop :=
  ∃ g h, e = .returned (.tuple #[.pointer (some ⟨g, 0, none⟩), .bool true]) ∧ w.heap.size ≤ g ∧ w.heap.size ≤ h ∧ Hid (VecAt w' g h n X) ∧ Hid (Below w.heap.size w w')
def FromNo (w : World) (e : Ending) (w' : World) : Prop := e = .returned (.tuple #[.pointer none, .bool false]) ∧ Below w.heap.size w w'
end Go.Proofs.YtibleaaghhhjkaaDoor.Vc
