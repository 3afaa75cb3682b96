/- The reference's First, List, Pack over rows of bools; layer 5's same: by contract. -/
import Derived.Test.YtibleaaghhhjkaaDoorVecBag
namespace Go.Proofs.YtibleaaghhhjkaaDoor.Vc
open Go.RowKit
open VecM
/-- bits as cells -/
def vb (X n : Nat) : List Value := (List.range n).map fun i => .bool (X.testBit i)
theorem vb_length (X n : Nat) : (vb X n).length = n := by simp [vb]
theorem vb_get (X n k : Nat) (h : k < n) : (vb X n)[k]? = some (.bool (X.testBit k)) := by simp [vb, h]
theorem vb_one (X n : Nat) : ∀ u ∈ vb X n, u.oneCell' = true := by
  intro u hu
  simp only [vb, List.mem_map] at hu
  obtain ⟨x, _, rfl⟩ := hu
  rfl
theorem L_snoc' (X n : Nat) : L X (n + 1) = L X n ++ (if X.testBit n then [n] else []) := by
  unfold L
  rw [List.range_succ, List.filter_append]
  congr 1
  cases h : X.testBit n <;> simp [h]
theorem firstI_at {X k n : Nat} (hk : k < n) (h : L X k = []) (hb : X.testBit k = true) : firstI (L X n) = (k : Int) := by
  obtain ⟨r, hr⟩ := L_app X (k + 1) (n - (k + 1))
  rw [show k + 1 + (n - (k + 1)) = n by omega, L_snoc', h, hb] at hr
  rw [hr]; rfl
set_option maxRecDepth 100000 in
set_option maxHeartbeats 1600000 in
theorem r1first_any (B n c X : Nat) (A : Option Addr) (w : World) (hr : Row w B A n (vb X n)) (hn : n ≤ 1000000) : Calls Tryd.prog 33 #[.slice A n c] w fun e w' => e = .returned (.int .i64 (firstI (L X n))) ∧ w = w' := by
  have HR := Lib.hid hr
  clear hr
  go_enter Tryd.func33, Tryd.ntmps33
  go_wp2_with fail
  go_loop [7] (fun i => ∃ k : Nat, k ≤ n ∧ i = .int .i64 k ∧ Hid (L X k = [])) (fun i => n - (intOf i).toNat)
  case atStart => exact ⟨0, by omega, rfl, rfl⟩
  case round =>
    obtain ⟨k, hk, rfl, hL⟩ := hrel
    by_cases hlt : k < n
    · obtain ⟨b, o, rfl, _, hc⟩ := HR.out.cellAt hlt (vb_get X n k hlt)
      cases hb : X.testBit k with
      | true =>
        have HF := Lib.hid (firstI_at hlt hL.out hb)
        rw [hb] at hc
        clear hb hL
        go_wp2_with fail
        go_ret
        exact ⟨by rw [HF.out]; rfl, rfl⟩
      | false =>
        have HN : Hid (L X (k + 1) = []) := by show _ = _; rw [L_snoc', hL.out, hb]; rfl
        rw [hb] at hc
        clear hb hL
        go_wp2_with fail
        go_round
        case rel => exact ⟨k + 1, by omega, by go_num, HN⟩
        case measure => simp [intOf]; omega
    · obtain rfl : n = k := by omega
      have HF : Hid (firstI (L X n) = -1) := by show _ = _; rw [hL.out]; rfl
      clear hL
      go_wp2_with fail
      go_ret
      exact ⟨by rw [HF.out]; rfl, rfl⟩
def ListOk' (l : List Nat) (w : World) (e : Ending) (w' : World) : Prop :=
  ∃ A c, e = .returned (.slice A l.length c) ∧ Hid (w'.ownsRow w.heap.size 3 1 (.slice A l.length c) l.length (ni l)) ∧ Hid (Below w.heap.size w w')
set_option maxRecDepth 100000 in
set_option maxHeartbeats 1600000 in
theorem r1list_any (B n c X : Nat) (A : Option Addr) (w : World) (hr : Row w B A n (vb X n)) (hn : n ≤ 1000000) (hB : B ≤ w.heap.size) : Calls Tryd.prog 12 #[.slice A n c] w (ListOk' (L X n) w) := by
  obtain ⟨i0, hi, hz0, hz1, hz2⟩ := info_parts infoI64
  have HR := Lib.hid hr
  clear hr
  go_enter Tryd.func12, Tryd.ntmps12
  go_wp2_with fail
  go_loopw [3, 8] (fun q i wr => ∃ k s : Nat, k ≤ n ∧ i = .int .i64 k ∧ s ≤ k ∧ Hid ((L X k).length = s) ∧ Hid (wr.ownsRow w.heap.size 3 1 q s (ni (L X k))) ∧ Hid (Below w.heap.size w wr)) (fun _ i _ => n - (intOf i).toNat)
  case atStart => exact ⟨0, 0, by omega, rfl, by omega, rfl, World.ownsRow_nil _ _ _ _, Below.refl _ _⟩
  case round =>
    obtain ⟨k, s, hk, rfl, hs, hL, hown, hb⟩ := hrel
    have hbs := hb.out.size
    by_cases hlt : k < n
    · obtain ⟨b, o, rfl, _, hc⟩ := (HR.out.below (hb.out.mono hB)).cellAt hlt (vb_get X n k hlt)
      cases hbit : X.testBit k with
      | true =>
        rw [hbit] at hc
        have HN : Hid (L X (k + 1) = L X k ++ [k]) := by show _ = _; rw [L_snoc', hbit]; rfl
        have hsum : Hid ([Value.int .i64 (k : Int)] = ni [k]) := rfl
        clear hbit
        go_wp2_with (at_builtin; refine wpList_app rfl (.tmp 14) (.tmp 16) 34 rfl w.heap.size 3 i0 (.int .i64 0) 8 Tryd.underlying34 hi hz0 hz1 hz2 rfl _ s (ni (L X k)) rfl (own_below hown.out ((Below.refl _ _).alloc (Nat.le_refl _) _)) _ _ 1 1 _ rfl (row_new _ _ _ _) (by rw [hsum.out]; exact ni_one _) (by unfold maxLen; omega) (by omega) (by simp; omega) ?_; intro v2 w2 hown2 hg2 hat2)
        have hal : Below wr.heap.size wr (wr.alloc (.cells #[.int .i64 (k : Int)] 3)) := (Below.refl _ _).alloc (Nat.le_refl _) _
        have HB2 : Hid (Below w.heap.size w w2) := below_app (hb.out.trans (hal.mono hbs)) (by simp; omega) (own_below hown.out hal) (Nat.le_refl _) hg2
        have HO2 : Hid (w2.ownsRow w.heap.size 3 1 v2 (s + 1) (ni (L X (k + 1)))) := by
          show World.ownsRow _ _ _ _ _ _ _
          rw [HN.out, ni_append, ← hsum.out]; exact hown2
        have HL2 : Hid ((L X (k + 1)).length = s + 1) := by show _ = _; rw [HN.out, List.length_append, hL.out]; rfl
        clear hg2 hat2 hown2 hal hown hL HN
        go_roundw
        case rel => exact ⟨k + 1, s + 1, by omega, by go_num, by omega, HL2, HO2, HB2⟩
        case measure => simp [intOf]; omega
      | false =>
        rw [hbit] at hc
        have HN : L X (k + 1) = L X k := by rw [L_snoc', hbit]; simp
        rw [← HN] at hL hown
        clear hbit HN
        go_wp2_with fail
        go_roundw
        case rel => exact ⟨k + 1, s, by omega, by go_num, by omega, hL, hown, hb⟩
        case measure => simp [intOf]; omega
    · obtain rfl : n = k := by omega
      have hLL := hL.out
      subst hLL
      obtain ⟨A2, c2, rfl, _⟩ := own_slice hown.out
      go_wp2_with fail
      go_ret
      exact ⟨A2, c2, rfl, hown, hb⟩
theorem mod_step (X k : Nat) : X % 2 ^ (k + 1) = if X.testBit k then X % 2 ^ k ||| 2 ^ k else X % 2 ^ k := by
  apply Nat.eq_of_testBit_eq; intro j
  rw [Nat.testBit_mod_two_pow]
  cases hb : X.testBit k with
  | true =>
    rw [if_pos rfl, Nat.testBit_or, Nat.testBit_mod_two_pow, Nat.testBit_two_pow]
    by_cases h1 : j < k
    · have h2 : j < k + 1 := by omega
      simp [h1, h2]; intro h3; omega
    · by_cases h2 : k = j
      · subst h2; simp [hb]
      · have h3 : ¬ j < k + 1 := by omega
        simp [h1, h2, h3]
  | false =>
    rw [if_neg (by decide), Nat.testBit_mod_two_pow]
    by_cases h1 : j < k
    · have h2 : j < k + 1 := by omega
      simp [h1, h2]
    · by_cases h2 : k = j
      · subst h2; simp [hb]
      · have h3 : ¬ j < k + 1 := by omega
        simp [h1, h3]
theorem byteN_set (Y k j : Nat) : byteN (Y ||| 2 ^ k) j = if j = k / 8 then byteN Y j ||| 2 ^ (k % 8) else byteN Y j := by
  apply Nat.eq_of_testBit_eq; intro i
  rw [byteN_bit, Nat.testBit_or, Nat.testBit_two_pow]
  by_cases h : j = k / 8
  · rw [if_pos h, Nat.testBit_or, byteN_bit, Nat.testBit_two_pow]
    by_cases hi : i < 8
    · have e : (k = 8 * j + i) = (k % 8 = i) := by simp only [eq_iff_iff]; omega
      simp [hi, e]
    · have e : ¬ (k % 8 = i) := by omega
      simp [hi, e]
  · rw [if_neg h, byteN_bit]
    by_cases hi : i < 8
    · have e : ¬ (k = 8 * j + i) := by omega
      simp [e]
    · simp [hi]
theorem bl_get (X n j : Nat) (h : j < bw n) : (bl X n)[j]? = some (byteU X j) := by
  unfold bl; rw [fill_get _ _ _ _ h, if_pos h]
theorem bl_set (Y n k : Nat) (v : Int) (hk : k / 8 < bw n) (hv : v = (byteN Y (k / 8) ||| 2 ^ (k % 8) : Nat)) : (bv (bl Y n)).set (k / 8) (.int .u8 v) = bv (bl (Y ||| 2 ^ k) n) := by
  apply List.ext_getElem?
  intro j
  rw [List.getElem?_set]
  by_cases hj : j < bw n
  · have e1 : (bv (bl (Y ||| 2 ^ k) n))[j]? = some (.int .u8 ((byteU (Y ||| 2 ^ k) j).toNat : Int)) := by
      unfold bv; rw [List.getElem?_map, bl_get _ _ _ hj]; rfl
    have e2 : (bv (bl Y n))[j]? = some (.int .u8 ((byteU Y j).toNat : Int)) := by
      unfold bv; rw [List.getElem?_map, bl_get _ _ _ hj]; rfl
    rw [e1, e2, byteU_toNat, byteU_toNat, byteN_set]
    by_cases e : k / 8 = j
    · rw [if_pos e, if_pos (by rw [bv_length, bl_length]; omega), if_pos e.symm, hv, e]
    · rw [if_neg e, if_neg (fun e' => e e'.symm)]
  · rw [List.getElem?_eq_none (by rw [bv_length, bl_length]; omega), List.getElem?_eq_none (by rw [bv_length, bl_length]; omega)]
    split
    · rw [if_neg (by rw [bv_length, bl_length]; omega)]
    · rfl
theorem bl_zero (n : Nat) : bl 0 n = List.replicate (bw n) 0 := by
  apply List.ext_getElem?
  intro j
  by_cases hj : j < bw n
  · rw [bl_get _ _ _ hj, List.getElem?_replicate, if_pos hj]; unfold byteU byteN; simp
  · rw [List.getElem?_eq_none (by rw [bl_length]; omega), List.getElem?_eq_none (by simp; omega)]
theorem or_u8 (y k : Nat) (hy : y < 256) (hk : k < 8) : bits .or .u8 (y : Int) (IntKind.u8.wrap (2 ^ k)) = ((y ||| 2 ^ k : Nat) : Int) := by
  have h1 : 2 ^ k < 2 ^ 8 := Nat.pow_lt_pow_right (by decide) hk
  have e : IntKind.u8.wrap ((2 : Int) ^ k) = ((2 ^ k : Nat) : Int) := by
    rw [show (2 : Int) ^ k = ((2 ^ k : Nat) : Int) by rw [Int.natCast_pow]; rfl]
    generalize 2 ^ k = p at *
    simp [IntKind.wrap, IntKind.bits, IntKind.signed]
    omega
  rw [e, u8_or_nat _ _ hy h1]
theorem byteN_lt (X j : Nat) : byteN X j < 256 := Nat.mod_lt _ (by decide)
def PackOk (l : List UInt8) (w : World) (e : Ending) (w' : World) : Prop :=
  ∃ A n c, e = .returned (.slice A n c) ∧ Hid (n = l.length) ∧ Hid (Row w' w'.heap.size A n (bv l)) ∧ Hid (Below w.heap.size w w')
set_option maxRecDepth 100000 in
set_option maxHeartbeats 1600000 in
theorem r1pack_any (B n c X : Nat) (A : Option Addr) (w : World) (hr : Row w B A n (vb X n)) (hX : X < 2 ^ n) (hn : n ≤ 1000000) (hB : B ≤ w.heap.size) : Calls Tryd.prog 37 #[.slice A n c] w (PackOk (bl X n) w) := by
  have HR := Lib.hid hr
  have HX := Lib.hid hX
  have hbw : bw n ≤ 125001 := by unfold bw; omega
  have HBW : Hid (((n : Int) + 7) / 8 = (bw n : Int)) := by show _ = _; unfold bw; omega
  have hmk := madeU8 (bw n) (by omega)
  have hkb : ∀ k, k < n → k / 8 < bw n := by intro k hk; unfold bw; omega
  have HKB := Lib.hid hkb
  clear hr hX hkb
  go_enter Tryd.func37, Tryd.ntmps37
  go_wp2_with (rw [HBW.out])
  clear hmk
  go_loopw [13] (fun x wr => ∃ k : Nat, k ≤ n ∧ x = .int .i64 k ∧ Hid (wr.ownsRow w.heap.size 5 1 (.slice (some ⟨w.heap.size, 0, none⟩) (bw n) (bw n)) (bw n) (bv (bl (X % 2 ^ k) n))) ∧ Hid (Below w.heap.size w wr)) (fun x _ => n - (intOf x).toNat)
  case atStart =>
    refine ⟨0, by omega, rfl, ?_, (Below.refl _ _).alloc (Nat.le_refl _) _⟩
    show World.ownsRow _ _ _ _ _ _ _
    rw [show X % 2 ^ 0 = 0 by simp [Nat.mod_one], bl_zero]
    have := own_lit (w := w) (base := w.heap.size) (g := w.heap.size) (n := bw n) (e := 5) (Array.replicate (bw n) (.int .u8 0)) rfl (Nat.le_refl _) (by simp) (by unfold maxLen; omega)
    simpa [bv] using this
  case round =>
    obtain ⟨k, hk, rfl, hown, hbk⟩ := hrel
    by_cases hlt : k < n
    · obtain ⟨b, o, rfl, _, hc⟩ := (HR.out.below (hbk.out.mono hB)).cellAt hlt (vb_get X n k hlt)
      have HM := Lib.hid (mod_step X k)
      cases hbit : X.testBit k with
      | true =>
        have hkb := HKB.out k hlt
        rw [hbit] at hc HM
        have hfz := hown.out.frozenAt (k / 8)
        have hcs := (hown.out.cellAt (k / 8) (by omega)).trans (bv_get _ (k / 8) (by rw [bl_length]; exact hkb))
        have hge : (bl (X % 2 ^ k) n)[k / 8]'(by rw [bl_length]; exact hkb) = byteU (X % 2 ^ k) (k / 8) := by
          have := bl_get (X % 2 ^ k) n (k / 8) hkb
          rw [List.getElem?_eq_getElem (by rw [bl_length]; exact hkb)] at this
          exact Option.some.inj this
        rw [hge, byteU_toNat] at hcs
        have hst := Lib.hid (fun u => (hown.out.stored (k / 8) u).1)
        have hset := Lib.hid (fun v hv => bl_set (X % 2 ^ k) n k v hkb hv)
        have HOR := Lib.hid (or_u8 (byteN (X % 2 ^ k) (k / 8)) (k % 8) (byteN_lt _ _) (by omega))
        have hy := byteN_lt (X % 2 ^ k) (k / 8)
        generalize byteN (X % 2 ^ k) (k / 8) = y at *
        have hk8 : (k : Int) / 8 < (bw n : Int) := by omega
        clear hbit hge hown
        go_wp2_with fail
        have HM2 := HM.out
        rw [if_pos rfl] at HM2
        go_roundw
        case rel => exact ⟨k + 1, by omega, by go_num, by rw [HM2, ← hset.out _ HOR.out]; exact hst.out _, by exact hbk.out.setCell (Nat.le_refl _) _⟩
        case measure => simp [intOf]; omega
      | false =>
        rw [hbit] at hc HM
        have HM2 := HM.out
        rw [if_neg (by decide)] at HM2
        rw [← HM2] at hown
        clear hbit HM HM2
        go_wp2_with fail
        go_roundw
        case rel => exact ⟨k + 1, by omega, by go_num, hown, hbk⟩
        case measure => simp [intOf]; omega
    · obtain rfl : n = k := by omega
      have HE : Hid (X % 2 ^ n = X) := Nat.mod_eq_of_lt HX.out
      rw [HE.out] at hown
      go_wp2_with fail
      go_ret
      exact ⟨_, _, _, rfl, (bl_length X n).symm, Row.of_own hown.out, hbk⟩
set_option maxRecDepth 100000 in
set_option maxHeartbeats 1600000 in
theorem same5_yes (B1 B2 m c1 c2 : Nat) (A1 A2 : Option Addr) (l : List Int) (w : World) (h1 : Row w B1 A1 m (nv l)) (h2 : Row w B2 A2 m (nv l)) (hm : m ≤ 1000000) :
    Calls Tryd.prog 34 #[.slice A1 m c1, .slice A2 m c2] w (QB true w) := by
  have H1 := Lib.hid h1
  have H2 := Lib.hid h2
  have HL := Lib.hid (nv_length l ▸ h1.1)
  clear h1 h2
  go_enter Tryd.func34, Tryd.ntmps34
  go_wp2_with fail
  go_loopw [13] (fun i wr => ∃ k q : Nat, k ≤ m ∧ i = .int .i64 k ∧ wr = w.drewN q) (fun i _ => m - (intOf i).toNat)
  case atStart => exact ⟨0, 0, by omega, rfl, rfl⟩
  case round =>
    obtain ⟨k, q, hk, rfl, rfl⟩ := hrel
    by_cases hlt : k < m
    · obtain ⟨b, o, rfl, _, hc⟩ := H1.out.cellAt hlt (nv_get l k (by rw [HL.out]; exact hlt))
      obtain ⟨b2, o2, rfl, _, hc2⟩ := H2.out.cellAt hlt (nv_get l k (by rw [HL.out]; exact hlt))
      have hlt' : (k : Int) < (m : Int) := by omega
      have hk0 : (0 : Int) ≤ (k : Int) := by omega
      generalize l[k]'(by rw [HL.out]; exact hlt) = x at *
      go_wp2_with fail
      go_quiet (fail)
      go_wp2_with fail
      go_roundw
      case rel => exact ⟨k + 1, _, by omega, by go_num, rfl⟩
      case measure => simp [intOf]; omega
    · obtain rfl : m = k := by omega
      go_wp2_with fail
      go_ret
      exact ⟨rfl, q, rfl⟩
end Go.Proofs.YtibleaaghhhjkaaDoor.Vc
