/- The reference's Bits, Unpack, Xor: by contract. -/
import Derived.Test.YtibleaaghhhjkaaDoorR1Bits
namespace Go.Proofs.YtibleaaghhhjkaaDoor.Vc
open Go.RowKit
open VecM
theorem infoBool : (Tryd.prog.info? 4).map (fun i => (i.zero, i.size, i.bytes)) = some (some (.bool false), 1, 1) := by kernel_rfl
theorem madeBool (m : Nat) (hm : m ≤ 1000000000) : ∀ w : World, (Instr.makeSlice 32 (.int .i64 (m : Int)) (.int .i64 (m : Int))).run Tryd.prog w = .ok (.slice (some ⟨w.heap.size, 0, none⟩) m m) (w.alloc (.cells (Array.replicate m (.bool false)) 4)) := by
  obtain ⟨i0, hi, hz0, hz1, hz2⟩ := info_parts infoBool
  intro w
  have h := run_make (P := Tryd.prog) w 32 4 i0 (.bool false) Tryd.underlying32 hi hz0 .i64 .i64 (m : Int) (m : Int) (by omega) (by omega) (by rw [hz2]; omega) (by omega)
  rw [hz1] at h
  have e : madeCells (Value.bool false).cells m = Array.replicate m (.bool false) := by
    apply Array.toList_inj.1
    rw [Array.toList_replicate]
    exact toList_madeCells_one (.bool false) m
  simpa [e] using h
theorem vb_zero (n : Nat) : vb 0 n = List.replicate n (.bool false) := by
  apply List.ext_getElem?
  intro j
  by_cases hj : j < n
  · rw [vb_get _ _ _ hj, List.getElem?_replicate, if_pos hj, Nat.zero_testBit]
  · rw [List.getElem?_eq_none (by rw [vb_length]; omega), List.getElem?_eq_none (by simp; omega)]
theorem vb_own (w : World) (n : Nat) (hn : n ≤ 1000000) : (w.alloc (.cells (Array.replicate n (.bool false)) 4)).ownsRow w.heap.size 4 1 (.slice (some ⟨w.heap.size, 0, none⟩) n n) n (vb 0 n) := by
  rw [vb_zero]
  have := own_lit (w := w) (base := w.heap.size) (g := w.heap.size) (n := n) (e := 4) (Array.replicate n (.bool false)) rfl (Nat.le_refl _) (by simp) (by unfold maxLen; omega)
  simpa using this
theorem vb_put (X n k : Nat) (on : Bool) (hk : k < n) : (vb X n).set k (.bool on) = vb (put X k on) n := by
  apply List.ext_getElem?
  intro j
  rw [List.getElem?_set]
  have hb : (put X k on).testBit j = if k = j then on else X.testBit j := by
    unfold put
    cases on with
    | true =>
      rw [if_pos rfl, Nat.testBit_or, Nat.testBit_two_pow]
      by_cases e : k = j
      · simp [e]
      · simp [e]
    | false =>
      rw [if_neg (by decide), clr_bit]
      by_cases e : k = j
      · subst e; simp
      · have e2 : j ≠ k := fun e' => e e'.symm
        simp [e, e2]
  by_cases hj : j < n
  · rw [vb_get _ _ _ hj, vb_get _ _ _ hj, hb]
    by_cases e : k = j
    · rw [if_pos e, if_pos (by rw [vb_length]; omega), if_pos e]
    · rw [if_neg e, if_neg e]
  · rw [List.getElem?_eq_none (by rw [vb_length]; omega), List.getElem?_eq_none (by rw [vb_length]; omega)]
    split
    · rw [if_neg (by rw [vb_length]; omega)]
    · rfl
theorem put_true (X k : Nat) : put X k true = X ||| 2 ^ k := by unfold put; rw [if_pos rfl]
/-- bits of the call's own -/
def BitsOk (n X : Nat) (w : World) (e : Ending) (w' : World) : Prop :=
  ∃ g, e = .returned (.slice (some ⟨g, 0, none⟩) n n) ∧ Hid (w'.ownsRow w.heap.size 4 1 (.slice (some ⟨g, 0, none⟩) n n) n (vb X n)) ∧ Hid (Below w.heap.size w w')
set_option maxRecDepth 100000 in
set_option maxHeartbeats 1600000 in
theorem r1bits_any (n : Nat) (A : Option Addr) (m c B : Nat) (zs : List Int) (w : World) (hr : Row w B A m (nv zs)) (hB : B ≤ w.heap.size) (hm : m ≤ 4611686018427387904) (h : n ≤ 256) : Calls Tryd.prog 39 #[.int .i64 (n : Int), .slice A m c] w (BitsOk n (ofL n zs) w) := by
  have HR := Lib.hid hr
  have HL := Lib.hid (nv_length zs ▸ hr.1)
  have hmk := madeBool n (by omega)
  have HOW := Lib.hid (vb_own w n (by omega))
  clear hr
  go_enter Tryd.func39, Tryd.ntmps39
  go_wp2_with fail
  clear hmk
  go_loopw [12] (fun i wr => ∃ k : Nat, k ≤ m ∧ i = .int .i64 k ∧ Hid (wr.ownsRow w.heap.size 4 1 (.slice (some ⟨w.heap.size, 0, none⟩) n n) n (vb (ofL n (zs.take k)) n)) ∧ Hid (Below w.heap.size w wr)) (fun i _ => m - (intOf i).toNat)
  case atStart => exact ⟨0, by omega, rfl, HOW, (Below.refl _ _).alloc (Nat.le_refl _) _⟩
  case round =>
    obtain ⟨k, hk, rfl, hown, hbk⟩ := hrel
    by_cases hlt : k < m
    · have hkl : k < zs.length := by rw [HL.out]; exact hlt
      obtain ⟨b, o, rfl, hbB, hc⟩ := (HR.out.below (hbk.out.mono hB)).cellAt hlt (nv_get zs k hkl)
      have HT := Lib.hid (ofL_take n zs k hkl)
      generalize zs[k]'hkl = z at *
      by_cases hz : 0 ≤ z ∧ z < (n : Int)
      · obtain ⟨j, rfl⟩ : ∃ j : Nat, z = (j : Int) := ⟨z.toNat, by omega⟩
        have hj : j < n := by omega
        have hfz := hown.out.frozenAt j
        have hcs := (hown.out.cellAt j (by omega)).trans (vb_get (ofL n (zs.take k)) n j hj)
        have hst := Lib.hid ((hown.out.stored j (.bool true)).1)
        have hset := Lib.hid (vb_put (ofL n (zs.take k)) n j true hj)
        have HX : Hid (ofL n (zs.take (k + 1)) = put (ofL n (zs.take k)) j true) := by
          show _ = _
          rw [HT.out, put_true]; unfold setOne; rw [if_pos hz, Int.toNat_natCast]
        have hjn : (j : Int) < (n : Int) := by omega
        clear hz hown HT
        go_wp2_with fail
        go_roundw
        case rel => exact ⟨k + 1, by omega, by go_num, by rw [HX.out, ← hset.out]; exact hst, by exact hbk.out.setCell (Nat.le_refl _) _⟩
        case measure => simp [intOf]; omega
      · have HX : Hid (ofL n (zs.take (k + 1)) = ofL n (zs.take k)) := by
          show _ = _
          rw [HT.out]; unfold setOne; rw [if_neg hz]
        rw [← HX.out] at hown
        by_cases hz0 : 0 ≤ z
        · have hzn : ¬ z < (n : Int) := fun h => hz ⟨hz0, h⟩
          clear hz HT HX
          go_wp2_with fail
          go_roundw
          case rel => exact ⟨k + 1, by omega, by go_num, hown, hbk⟩
          case measure => simp [intOf]; omega
        · clear hz HT HX
          go_wp2_with fail
          go_roundw
          case rel => exact ⟨k + 1, by omega, by go_num, hown, hbk⟩
          case measure => simp [intOf]; omega
    · obtain rfl : m = k := by omega
      rw [List.take_of_length_le (by rw [HL.out]; omega)] at hown
      go_wp2_with fail
      go_ret
      exact ⟨_, rfl, hown, hbk⟩
theorem and_one_u8 (x k : Nat) (h : x < 256) : bits .and .u8 ((x : Int) / 2 ^ k) 1 = ((x / 2 ^ k % 2 : Nat) : Int) := by
  have h2 : x / 2 ^ k < 256 := Nat.lt_of_le_of_lt (Nat.div_le_self _ _) h
  rw [cast_shr]
  have := u8_and_nat (x / 2 ^ k) 1 h2 (by decide)
  rw [Nat.and_one_is_mod] at this
  exact this
theorem frN_at (l : List UInt8) (m k : Nat) (hk : k / 8 < m) : (l.getD (k / 8) 0).toNat / 2 ^ (k % 8) % 2 = if (frN l m).testBit k then 1 else 0 := by
  rw [frN_bit]
  simp only [hk, decide_true, Bool.true_and]
  rw [Nat.testBit_eq_decide_div_mod_eq]
  generalize (l.getD (k / 8) 0).toNat / 2 ^ (k % 8) = q
  by_cases e : q % 2 = 1
  · simp [e]
  · have e2 : q % 2 = 0 := by omega
    simp [e2]
def UnpackOk (n X : Nat) (w : World) (e : Ending) (w' : World) : Prop :=
  ∃ g, e = .returned (.tuple #[.slice (some ⟨g, 0, none⟩) n n, .bool true]) ∧ Hid (w'.ownsRow w.heap.size 4 1 (.slice (some ⟨g, 0, none⟩) n n) n (vb X n)) ∧ Hid (Below w.heap.size w w')
def UnpackNo (w : World) (e : Ending) (w' : World) : Prop := e = .returned (.tuple #[.slice none 0 0, .bool false]) ∧ Hid (Below w.heap.size w w')
/-- both ends of Unpack of as many bytes as there should be -/
def UnpackEnd (n X : Nat) (w : World) (e : Ending) (w' : World) : Prop := (X < 2 ^ n ∧ UnpackOk n X w e w') ∨ (¬ X < 2 ^ n ∧ UnpackNo w e w')
theorem clr_no (X i : Nat) (h : X.testBit i = false) : clr X i = X := by
  apply Nat.eq_of_testBit_eq; intro j
  rw [clr_bit]
  by_cases e : j = i
  · subst e; simp [h]
  · simp [e]
theorem mod_put (W k : Nat) : W % 2 ^ (k + 1) = put (W % 2 ^ k) k (W.testBit k) := by
  rw [mod_step]
  cases h : W.testBit k with
  | true => rw [if_pos rfl, put_true]
  | false =>
    rw [if_neg (by decide)]
    unfold put
    rw [if_neg (by decide), clr_no]
    rw [Nat.testBit_mod_two_pow]; simp
theorem fits_iff {n m : Nat} {l : List UInt8} (hl : l.length = m) : fits n l ↔ m = bw n ∧ frN l m < 2 ^ n := by
  constructor
  · intro h
    have hm : m = bw n := by rw [← hl]; exact h.1
    exact ⟨hm, frN_lt h m (by omega)⟩
  · rintro ⟨hm, h⟩
    refine ⟨by omega, fun h8 => ?_⟩
    apply Nat.lt_pow_two_of_testBit
    intro i hi
    by_cases hi8 : i < 8
    · have hb : bw n - 1 < bw n := by unfold bw; omega
      have h2 := frN_bit l (8 * (bw n - 1) + i) m
      rw [Nat.testBit_lt_two_pow (Nat.lt_of_lt_of_le h (Nat.pow_le_pow_right (by decide) (by unfold bw; omega))), show (8 * (bw n - 1) + i) / 8 = bw n - 1 by omega, show (8 * (bw n - 1) + i) % 8 = i by omega, hm] at h2
      simp only [hb, decide_true, Bool.true_and] at h2
      exact h2.symm
    · exact Nat.testBit_lt_two_pow (Nat.lt_of_lt_of_le (byte_lt _) (Nat.pow_le_pow_right (by decide) (by omega)))
end Go.Proofs.YtibleaaghhhjkaaDoor.Vc
