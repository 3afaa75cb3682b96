/- vec's Len, Has, Set, Of: by contract. -/
import Derived.Test.YtgeodhffgbhmaaaDoorVec
namespace Go.Proofs.YtgeodhffgbhmaaaDoor.Vc
open Go.RowKit
open VecM
theorem cast_shr (x k : Nat) : (x : Int) / 2 ^ k = ((x / 2 ^ k : Nat) : Int) := by
  rw [Int.natCast_ediv, Int.natCast_pow]; rfl
theorem and_one_u64 (x k : Nat) (h : x < 2 ^ 64) : bits .and .u64 ((x : Int) / 2 ^ k) 1 = ((x / 2 ^ k % 2 : Nat) : Int) := by
  have h2 : x / 2 ^ k < 18446744073709551616 := Nat.lt_of_le_of_lt (Nat.div_le_self _ _) h
  rw [cast_shr]
  have := u64_and_nat (x / 2 ^ k) 1 h2 (by decide)
  rw [Nat.and_one_is_mod] at this
  exact this
set_option maxRecDepth 100000 in
theorem len_nil (w : World) : Calls Tryd.prog 28 #[.pointer none] w fun e w' => e = .returned (.int .i64 0) ∧ w = w' := by
  go_enter Tryd.func28, Tryd.ntmps28
  go_wp2_with fail
  go_ret
  exact ⟨rfl, rfl⟩
set_option maxRecDepth 100000 in
theorem len_any (g h n X : Nat) (w : World) (v : VecAt w g h n X) : Calls Tryd.prog 28 #[.pointer (some ⟨g, 0, none⟩)] w fun e w' => e = .returned (.int .i64 (n : Int)) ∧ w = w' := by
  obtain ⟨cap, _, _, c0, _⟩ := v.cells
  clear v
  go_enter Tryd.func28, Tryd.ntmps28
  go_wp2_with fail
  go_ret
  exact ⟨rfl, rfl⟩
set_option maxRecDepth 100000 in
theorem has_no (p : Option Addr) (i : Int) (w : World) (hw : Calls Tryd.prog 52 #[.pointer p, .int .i64 i] w fun e w' => e = .returned (.bool false) ∧ w = w') : Calls Tryd.prog 33 #[.pointer p, .int .i64 i] w fun e w' => e = .returned (.bool false) ∧ w = w' := by
  have HW := Lib.hid hw
  clear hw
  go_enter Tryd.func33, Tryd.ntmps33
  go_wp2_with fail
  refine HW.out.mono ?_
  rintro e w' ⟨rfl, rfl⟩
  go_wp2_with fail
  go_ret
  exact ⟨rfl, rfl⟩
set_option maxRecDepth 100000 in
set_option maxHeartbeats 800000 in
theorem has_in (g h n X i : Nat) (w : World) (v : VecAt w g h n X) (hi : i < n) : Calls Tryd.prog 33 #[.pointer (some ⟨g, 0, none⟩), .int .i64 (i : Int)] w fun e w' => e = .returned (.bool (X.testBit i)) ∧ w = w' := by
  have HW := Lib.hid (within_in g h n X i w v hi)
  obtain ⟨cap, _, _, c0, c1⟩ := v.cells
  have hw := v.at_ (mw_div hi)
  have hlt := word_lt X (i / 64)
  have hb := has_word X i
  have hm : i / 64 < mw n := mw_div hi
  have hi2 : i < 256 := by have := v.1; omega
  generalize word X (i / 64) = x at *
  have HB := Lib.hid hb
  clear v hb
  go_enter Tryd.func33, Tryd.ntmps33
  go_wp2_with fail
  refine HW.out.mono ?_
  rintro e w' ⟨rfl, rfl⟩
  go_wp2_with fail
  go_ret
  refine ⟨?_, rfl⟩
  show Ending.returned (.bool (bits BinOp.and IntKind.u64 ((x : Int) / 2 ^ (i % 64)) 1 == 1)) = _
  rw [and_one_u64 _ _ hlt, HB.out]
  cases X.testBit i <;> rfl
def SetOk (g h n Y : Nat) (b : Bool) (w : World) (e : Ending) (w' : World) : Prop := e = .returned (.bool b) ∧ Hid (VecAt w' g h n Y) ∧ Hid (w.grownBy w' (some h))
set_option maxRecDepth 100000 in
theorem set_no (p : Option Addr) (i : Int) (on : Bool) (w : World) (hw : Calls Tryd.prog 52 #[.pointer p, .int .i64 i] w fun e w' => e = .returned (.bool false) ∧ w = w') : Calls Tryd.prog 26 #[.pointer p, .int .i64 i, .bool on] w fun e w' => e = .returned (.bool false) ∧ w = w' := by
  have HW := Lib.hid hw
  clear hw
  go_enter Tryd.func26, Tryd.ntmps26
  go_wp2_with fail
  refine HW.out.mono ?_
  rintro e w' ⟨rfl, rfl⟩
  go_wp2_with fail
  go_ret
  exact ⟨rfl, rfl⟩
theorem wrap_pow (k : Nat) (h : k < 64) : IntKind.u64.wrap ((2 : Int) ^ k) = ((2 ^ k : Nat) : Int) := by
  have h2 : 2 ^ k < 2 ^ 64 := Nat.pow_lt_pow_right (by decide) h
  rw [IntKind.wrap_u64, show (2 : Int) ^ k = ((2 ^ k : Nat) : Int) by rw [Int.natCast_pow]; rfl]
  generalize 2 ^ k = p at *
  omega
theorem or_pow (x k : Nat) (hx : x < 2 ^ 64) (h : k < 64) : bits .or .u64 (x : Int) (IntKind.u64.wrap (2 ^ k)) = ((x ||| 2 ^ k : Nat) : Int) := by
  rw [wrap_pow k h, u64_or_nat _ _ hx (Nat.pow_lt_pow_right (by decide) h)]
theorem andNot_pow (x k : Nat) (hx : x < 2 ^ 64) (h : k < 64) : bits .andNot .u64 (x : Int) (IntKind.u64.wrap (2 ^ k)) = ((clr x k : Nat) : Int) := by
  have hp : 2 ^ k < 2 ^ 64 := Nat.pow_lt_pow_right (by decide) h
  rw [wrap_pow k h, u64_andNot_nat _ _ hx hp]
  congr 1
  apply Nat.eq_of_testBit_eq; intro j
  rw [Nat.testBit_and, clr_bit, show 18446744073709551615 - 2 ^ k = 2 ^ 64 - (2 ^ k + 1) by omega, Nat.testBit_two_pow_sub_succ hp, Nat.testBit_two_pow]
  by_cases hj : j < 64
  · by_cases e : j = k
    · subst e; simp
    · have e2 : ¬ k = j := fun h => e h.symm
      simp [hj, e, e2]
  · rw [Nat.testBit_lt_two_pow (Nat.lt_of_lt_of_le hx (Nat.pow_le_pow_right (by decide) (by omega)))]; simp
/-- bit i as it shall be -/
def put (X i : Nat) (on : Bool) : Nat := if on then X ||| 2 ^ i else clr X i
theorem put_lt {X n i : Nat} (on : Bool) (h : X < 2 ^ n) (hi : i < n) : put X i on < 2 ^ n := by
  unfold put; split
  · exact set_lt h hi
  · exact clr_lt h
set_option maxRecDepth 100000 in
set_option maxHeartbeats 800000 in
theorem set_in (g h n X i : Nat) (on : Bool) (w : World) (v : VecAt w g h n X) (hi : i < n) : Calls Tryd.prog 26 #[.pointer (some ⟨g, 0, none⟩), .int .i64 (i : Int), .bool on] w (SetOk g h n (put X i on) true w) := by
  have HW := Lib.hid (within_in g h n X i w v hi)
  obtain ⟨cap, _, _, c0, c1⟩ := v.cells
  have hw := v.at_ (mw_div hi)
  have hf := v.frozen (i / 64)
  have hlt := word_lt X (i / 64)
  have hm : i / 64 < mw n := mw_div hi
  have hi2 : i < 256 := by have := v.1; omega
  have HV : Hid (∀ u, u = (word (put X i on) (i / 64) : Int) → VecAt (w.setCell ⟨h, i / 64, none⟩ (.int .u64 u)) g h n (put X i on)) := fun u hu => v.store hm (put_lt on v.2.1 hi) hu fun j _ hj => by
    unfold put; split
    · rw [word_set, if_neg hj]
    · rw [word_clr, if_neg hj]
  have HP : Hid (word (put X i on) (i / 64) = if on then word X (i / 64) ||| 2 ^ (i % 64) else clr (word X (i / 64)) (i % 64)) := by
    show _ = _
    unfold put; split
    · rw [word_set, if_pos rfl]
    · rw [word_clr, if_pos rfl]
  generalize word X (i / 64) = x at *
  clear v
  cases on with
  | true =>
    go_enter Tryd.func26, Tryd.ntmps26
    go_wp2_with fail
    refine HW.out.mono ?_
    rintro e w' ⟨rfl, rfl⟩
    go_wp2_with fail
    go_ret
    refine ⟨rfl, HV.out _ ?_, grown_set1 _ _ _ _⟩
    rw [HP.out, or_pow _ _ hlt (by omega)]; simp
  | false =>
    go_enter Tryd.func26, Tryd.ntmps26
    go_wp2_with fail
    refine HW.out.mono ?_
    rintro e w' ⟨rfl, rfl⟩
    go_wp2_with fail
    go_ret
    refine ⟨rfl, HV.out _ ?_, grown_set1 _ _ _ _⟩
    rw [HP.out, andNot_pow _ _ hlt (by omega)]; simp
/-- numbers as cells -/
def nv (l : List Int) : List Value := l.map fun x => .int .i64 x
theorem nv_length (l : List Int) : (nv l).length = l.length := by simp [nv]
theorem nv_get (l : List Int) (k : Nat) (h : k < l.length) : (nv l)[k]? = some (.int .i64 l[k]) := by simp [nv, h]
theorem nv_append (l m : List Int) : nv (l ++ m) = nv l ++ nv m := by simp [nv]
def setOne (n X : Nat) (z : Int) : Nat := if 0 ≤ z ∧ z < (n : Int) then X ||| 2 ^ z.toNat else X
def ofL (n : Nat) (l : List Int) : Nat := l.foldl (setOne n) 0
theorem ofL_snoc (n : Nat) (l : List Int) (z : Int) : ofL n (l ++ [z]) = setOne n (ofL n l) z := by simp [ofL]
theorem ofL_take (n : Nat) (l : List Int) (k : Nat) (h : k < l.length) : ofL n (l.take (k + 1)) = setOne n (ofL n (l.take k)) l[k] := by
  rw [List.take_succ_eq_append_getElem h, ofL_snoc]
def OfOk (n X : Nat) (w : World) (e : Ending) (w' : World) : Prop :=
  ∃ g h, e = .returned (.pointer (some ⟨g, 0, none⟩)) ∧ w.heap.size ≤ g ∧ w.heap.size ≤ h ∧ Hid (VecAt w' g h n X) ∧ Hid (Below w.heap.size w w')
/-- Set, whatever the place -/
theorem set_one (g h n X : Nat) (z : Int) (w : World) (v : VecAt w g h n X) : Calls Tryd.prog 26 #[.pointer (some ⟨g, 0, none⟩), .int .i64 z, .bool true] w fun e w' => ∃ b, e = .returned (.bool b) ∧ Hid (VecAt w' g h n (setOne n X z)) ∧ Hid (w.grownBy w' (some h)) := by
  by_cases hz : 0 ≤ z ∧ z < (n : Int)
  · obtain ⟨i, rfl⟩ : ∃ i : Nat, z = (i : Int) := ⟨z.toNat, by omega⟩
    refine (set_in g h n X i true w v (by omega)).mono ?_
    rintro e w' ⟨rfl, h1, h2⟩
    refine ⟨true, rfl, ?_, h2⟩
    rw [show setOne n X (i : Int) = put X i true by unfold setOne put; rw [if_pos hz, if_pos rfl, Int.toNat_natCast]]
    exact h1
  · refine (set_no _ z true w (within_out g h n X z w v (by omega))).mono ?_
    rintro e w' ⟨rfl, rfl⟩
    refine ⟨false, rfl, ?_, ⟨rfl, rfl, rfl, Nat.le_refl _, fun _ _ _ => rfl⟩⟩
    rw [show setOne n X z = X by unfold setOne; rw [if_neg hz]]
    exact v
set_option maxRecDepth 100000 in
set_option maxHeartbeats 1600000 in
theorem of_bad (x : Int) (A : Option Addr) (m c B : Nat) (zs : List Int) (w : World) (hr : Row w B A m (nv zs)) (hm : m ≤ 4611686018427387904) (h : x < 0 ∨ 256 < x) : Calls Tryd.prog 10 #[.int .i64 x, .slice A m c] w fun e w' => e = .returned (.pointer none) ∧ w = w' := by
  have HX := Lib.hid h
  have HR := Lib.hid hr
  have HL := Lib.hid (nv_length zs ▸ hr.1)
  clear h hr
  go_enter Tryd.func10, Tryd.ntmps10
  go_wp2_with fail
  refine (new_bad x w HX.out).mono ?_
  rintro e w' ⟨rfl, rfl⟩
  go_wp2_with fail
  go_loopw [12] (fun i wr => ∃ k : Nat, k ≤ m ∧ i = .int .i64 k ∧ w = wr) (fun i _ => m - (intOf i).toNat)
  case atStart => exact ⟨0, by omega, rfl, rfl⟩
  case round =>
    obtain ⟨k, hk, rfl, rfl⟩ := hrel
    by_cases hlt : k < m
    · obtain ⟨b, o, rfl, _, hc⟩ := HR.out.cellAt hlt (nv_get zs k (by rw [HL.out]; exact hlt))
      generalize zs[k]'(by rw [HL.out]; exact hlt) = z at *
      go_wp2_with fail
      refine (set_no none z true w (within_nil z w)).mono ?_
      rintro e w' ⟨rfl, rfl⟩
      go_wp2_with fail
      go_roundw
      case rel => exact ⟨k + 1, by omega, by go_num, trivial⟩
      case measure => simp [intOf]; omega
    · obtain rfl : m = k := by omega
      go_wp2_with fail
      go_ret
      exact ⟨rfl, rfl⟩
set_option maxRecDepth 100000 in
set_option maxHeartbeats 1600000 in
theorem of_any (n : Nat) (A : Option Addr) (m c B : Nat) (zs : List Int) (w : World) (hr : Row w B A m (nv zs)) (hB : B ≤ w.heap.size) (hm : m ≤ 4611686018427387904) (h : n ≤ 256) : Calls Tryd.prog 10 #[.int .i64 (n : Int), .slice A m c] w (OfOk n (ofL n zs) w) := by
  have HR := Lib.hid hr
  have HL := Lib.hid (nv_length zs ▸ hr.1)
  clear hr
  go_enter Tryd.func10, Tryd.ntmps10
  go_wp2_with fail
  refine (new_ok n w h).mono ?_
  rintro e w1 ⟨g, h1, rfl, hg, hh, hv, hb⟩
  go_wp2_with fail
  go_loopw [12] (fun i wr => ∃ k : Nat, k ≤ m ∧ i = .int .i64 k ∧ Hid (VecAt wr g h1 n (ofL n (zs.take k))) ∧ Hid (Below w.heap.size w wr)) (fun i _ => m - (intOf i).toNat)
  case atStart => exact ⟨0, by omega, rfl, hv, hb⟩
  case round =>
    obtain ⟨k, hk, rfl, hvk, hbk⟩ := hrel
    by_cases hlt : k < m
    · have hkl : k < zs.length := by rw [HL.out]; exact hlt
      obtain ⟨b, o, rfl, hbB, hc⟩ := (HR.out.below (hbk.out.mono hB)).cellAt hlt (nv_get zs k hkl)
      have HT := Lib.hid (ofL_take n zs k hkl)
      generalize zs[k]'hkl = z at *
      go_wp2_with fail
      refine (set_one g h1 n _ z wr hvk.out).mono ?_
      rintro e w2 ⟨b2, rfl, hv2, hg2⟩
      have hb2 : Hid (Below w.heap.size w w2) := hbk.out.grown hg2.out hbk.out.size (by intro r hr; injection hr with hr; omega)
      rw [← HT.out] at hv2
      clear hg2
      go_wp2_with fail
      go_roundw
      case rel => exact ⟨k + 1, by omega, by go_num, hv2, hb2⟩
      case measure => simp [intOf]; omega
    · obtain rfl : m = k := by omega
      rw [List.take_of_length_le (by rw [HL.out]; omega)] at hvk
      go_wp2_with fail
      go_ret
      exact ⟨g, h1, rfl, hg, hh, hvk, hbk⟩
end Go.Proofs.YtgeodhffgbhmaaaDoor.Vc
