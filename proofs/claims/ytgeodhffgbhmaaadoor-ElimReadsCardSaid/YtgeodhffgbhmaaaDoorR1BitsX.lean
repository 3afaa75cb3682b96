/- The reference's First, List, Pack over rows of bools; layer 5's same: by contract. The reference's Bits, Unpack, Xor: by contract. -/
import Derived.Test.YtgeodhffgbhmaaaDoorVecBag
namespace Go.Proofs.YtgeodhffgbhmaaaDoor.Vc
open Go.RowKit
open VecM
/-- bits as cells -/
def vb (X n : Nat) : List Value := (List.range n).map fun i => .bool (X.testBit i)
theorem vb_length (X n : Nat) : (vb X n).length = n := by simp [vb]
theorem vb_get (X n k : Nat) (h : k < n) : (vb X n)[k]? = some (.bool (X.testBit k)) := by simp [vb, h]
theorem vb_one (X n : Nat) : ∀ u ∈ vb X n, u.oneCell' = true := by
  intro u hu
  simp only [vb, List.mem_map] at hu
  obtain ⟨x, _, rfl⟩ := hu
  rfl
theorem L_snoc' (X n : Nat) : L X (n + 1) = L X n ++ (if X.testBit n then [n] else []) := by
  unfold L
  rw [List.range_succ, List.filter_append]
  congr 1
  cases h : X.testBit n <;> simp [h]
theorem firstI_at {X k n : Nat} (hk : k < n) (h : L X k = []) (hb : X.testBit k = true) : firstI (L X n) = (k : Int) := by
  obtain ⟨r, hr⟩ := L_app X (k + 1) (n - (k + 1))
  rw [show k + 1 + (n - (k + 1)) = n by omega, L_snoc', h, hb] at hr
  rw [hr]; rfl
set_option maxRecDepth 100000 in
set_option maxHeartbeats 1600000 in
theorem r1first_any (B n c X : Nat) (A : Option Addr) (w : World) (hr : Row w B A n (vb X n)) (hn : n ≤ 1000000) : Calls Tryd.prog 32 #[.slice A n c] w fun e w' => e = .returned (.int .i64 (firstI (L X n))) ∧ w = w' := by
  have HR := Lib.hid hr
  clear hr
  go_enter Tryd.func32, Tryd.ntmps32
  go_wp2_with fail
  go_loop [7] (fun i => ∃ k : Nat, k ≤ n ∧ i = .int .i64 k ∧ Hid (L X k = [])) (fun i => n - (intOf i).toNat)
  case atStart => exact ⟨0, by omega, rfl, rfl⟩
  case round =>
    obtain ⟨k, hk, rfl, hL⟩ := hrel
    by_cases hlt : k < n
    · obtain ⟨b, o, rfl, _, hc⟩ := HR.out.cellAt hlt (vb_get X n k hlt)
      cases hb : X.testBit k with
      | true =>
        have HF := Lib.hid (firstI_at hlt hL.out hb)
        rw [hb] at hc
        clear hb hL
        go_wp2_with fail
        go_ret
        exact ⟨by rw [HF.out]; rfl, rfl⟩
      | false =>
        have HN : Hid (L X (k + 1) = []) := by show _ = _; rw [L_snoc', hL.out, hb]; rfl
        rw [hb] at hc
        clear hb hL
        go_wp2_with fail
        go_round
        case rel => exact ⟨k + 1, by omega, by go_num, HN⟩
        case measure => simp [intOf]; omega
    · obtain rfl : n = k := by omega
      have HF : Hid (firstI (L X n) = -1) := by show _ = _; rw [hL.out]; rfl
      clear hL
      go_wp2_with fail
      go_ret
      exact ⟨by rw [HF.out]; rfl, rfl⟩
def ListOk' (l : List Nat) (w : World) (e : Ending) (w' : World) : Prop :=
  ∃ A c, e = .returned (.slice A l.length c) ∧ Hid (w'.ownsRow w.heap.size 3 1 (.slice A l.length c) l.length (ni l)) ∧ Hid (Below w.heap.size w w')
set_option maxRecDepth 100000 in
set_option maxHeartbeats 1600000 in
theorem r1list_any (B n c X : Nat) (A : Option Addr) (w : World) (hr : Row w B A n (vb X n)) (hn : n ≤ 1000000) (hB : B ≤ w.heap.size) : Calls Tryd.prog 41 #[.slice A n c] w (ListOk' (L X n) w) := by
  obtain ⟨i0, hi, hz0, hz1, hz2⟩ := info_parts infoI64
  have HR := Lib.hid hr
  clear hr
  go_enter Tryd.func41, Tryd.ntmps41
  go_wp2_with fail
  go_loopw [3, 8] (fun q i wr => ∃ k s : Nat, k ≤ n ∧ i = .int .i64 k ∧ s ≤ k ∧ Hid ((L X k).length = s) ∧ Hid (wr.ownsRow w.heap.size 3 1 q s (ni (L X k))) ∧ Hid (Below w.heap.size w wr)) (fun _ i _ => n - (intOf i).toNat)
  case atStart => exact ⟨0, 0, by omega, rfl, by omega, rfl, World.ownsRow_nil _ _ _ _, Below.refl _ _⟩
  case round =>
    obtain ⟨k, s, hk, rfl, hs, hL, hown, hb⟩ := hrel
    have hbs := hb.out.size
    by_cases hlt : k < n
    · obtain ⟨b, o, rfl, _, hc⟩ := (HR.out.below (hb.out.mono hB)).cellAt hlt (vb_get X n k hlt)
      cases hbit : X.testBit k with
      | true =>
        rw [hbit] at hc
        have HN : Hid (L X (k + 1) = L X k ++ [k]) := by show _ = _; rw [L_snoc', hbit]; rfl
        have hsum : Hid ([Value.int .i64 (k : Int)] = ni [k]) := rfl
        clear hbit
        go_wp2_with (at_builtin; refine wpList_app rfl (.tmp 14) (.tmp 16) 29 rfl w.heap.size 3 i0 (.int .i64 0) 8 Tryd.underlying29 hi hz0 hz1 hz2 rfl _ s (ni (L X k)) rfl (own_below hown.out ((Below.refl _ _).alloc (Nat.le_refl _) _)) _ _ 1 1 _ rfl (row_new _ _ _ _) (by rw [hsum.out]; exact ni_one _) (by unfold maxLen; omega) (by omega) (by simp; omega) ?_; intro v2 w2 hown2 hg2 hat2)
        have hal : Below wr.heap.size wr (wr.alloc (.cells #[.int .i64 (k : Int)] 3)) := (Below.refl _ _).alloc (Nat.le_refl _) _
        have HB2 : Hid (Below w.heap.size w w2) := below_app (hb.out.trans (hal.mono hbs)) (by simp; omega) (own_below hown.out hal) (Nat.le_refl _) hg2
        have HO2 : Hid (w2.ownsRow w.heap.size 3 1 v2 (s + 1) (ni (L X (k + 1)))) := by
          show World.ownsRow _ _ _ _ _ _ _
          rw [HN.out, ni_append, ← hsum.out]; exact hown2
        have HL2 : Hid ((L X (k + 1)).length = s + 1) := by show _ = _; rw [HN.out, List.length_append, hL.out]; rfl
        clear hg2 hat2 hown2 hal hown hL HN
        go_roundw
        case rel => exact ⟨k + 1, s + 1, by omega, by go_num, by omega, HL2, HO2, HB2⟩
        case measure => simp [intOf]; omega
      | false =>
        rw [hbit] at hc
        have HN : L X (k + 1) = L X k := by rw [L_snoc', hbit]; simp
        rw [← HN] at hL hown
        clear hbit HN
        go_wp2_with fail
        go_roundw
        case rel => exact ⟨k + 1, s, by omega, by go_num, by omega, hL, hown, hb⟩
        case measure => simp [intOf]; omega
    · obtain rfl : n = k := by omega
      have hLL := hL.out
      subst hLL
      obtain ⟨A2, c2, rfl, _⟩ := own_slice hown.out
      go_wp2_with fail
      go_ret
      exact ⟨A2, c2, rfl, hown, hb⟩
theorem mod_step (X k : Nat) : X % 2 ^ (k + 1) = if X.testBit k then X % 2 ^ k ||| 2 ^ k else X % 2 ^ k := by
  apply Nat.eq_of_testBit_eq; intro j
  rw [Nat.testBit_mod_two_pow]
  cases hb : X.testBit k with
  | true =>
    rw [if_pos rfl, Nat.testBit_or, Nat.testBit_mod_two_pow, Nat.testBit_two_pow]
    by_cases h1 : j < k
    · have h2 : j < k + 1 := by omega
      simp [h1, h2]; intro h3; omega
    · by_cases h2 : k = j
      · subst h2; simp [hb]
      · have h3 : ¬ j < k + 1 := by omega
        simp [h1, h2, h3]
  | false =>
    rw [if_neg (by decide), Nat.testBit_mod_two_pow]
    by_cases h1 : j < k
    · have h2 : j < k + 1 := by omega
      simp [h1, h2]
    · by_cases h2 : k = j
      · subst h2; simp [hb]
      · have h3 : ¬ j < k + 1 := by omega
        simp [h1, h3]
theorem byteN_set (Y k j : Nat) : byteN (Y ||| 2 ^ k) j = if j = k / 8 then byteN Y j ||| 2 ^ (k % 8) else byteN Y j := by
  apply Nat.eq_of_testBit_eq; intro i
  rw [byteN_bit, Nat.testBit_or, Nat.testBit_two_pow]
  by_cases h : j = k / 8
  · rw [if_pos h, Nat.testBit_or, byteN_bit, Nat.testBit_two_pow]
    by_cases hi : i < 8
    · have e : (k = 8 * j + i) = (k % 8 = i) := by simp only [eq_iff_iff]; omega
      simp [hi, e]
    · have e : ¬ (k % 8 = i) := by omega
      simp [hi, e]
  · rw [if_neg h, byteN_bit]
    by_cases hi : i < 8
    · have e : ¬ (k = 8 * j + i) := by omega
      simp [e]
    · simp [hi]
theorem bl_get (X n j : Nat) (h : j < bw n) : (bl X n)[j]? = some (byteU X j) := by
  unfold bl; rw [fill_get _ _ _ _ h, if_pos h]
theorem bl_set (Y n k : Nat) (v : Int) (hk : k / 8 < bw n) (hv : v = (byteN Y (k / 8) ||| 2 ^ (k % 8) : Nat)) : (bv (bl Y n)).set (k / 8) (.int .u8 v) = bv (bl (Y ||| 2 ^ k) n) := by
  apply List.ext_getElem?
  intro j
  rw [List.getElem?_set]
  by_cases hj : j < bw n
  · have e1 : (bv (bl (Y ||| 2 ^ k) n))[j]? = some (.int .u8 ((byteU (Y ||| 2 ^ k) j).toNat : Int)) := by
      unfold bv; rw [List.getElem?_map, bl_get _ _ _ hj]; rfl
    have e2 : (bv (bl Y n))[j]? = some (.int .u8 ((byteU Y j).toNat : Int)) := by
      unfold bv; rw [List.getElem?_map, bl_get _ _ _ hj]; rfl
    rw [e1, e2, byteU_toNat, byteU_toNat, byteN_set]
    by_cases e : k / 8 = j
    · rw [if_pos e, if_pos (by rw [bv_length, bl_length]; omega), if_pos e.symm, hv, e]
    · rw [if_neg e, if_neg (fun e' => e e'.symm)]
  · rw [List.getElem?_eq_none (by rw [bv_length, bl_length]; omega), List.getElem?_eq_none (by rw [bv_length, bl_length]; omega)]
    split
    · rw [if_neg (by rw [bv_length, bl_length]; omega)]
    · rfl
theorem bl_zero (n : Nat) : bl 0 n = List.replicate (bw n) 0 := by
  apply List.ext_getElem?
  intro j
  by_cases hj : j < bw n
  · rw [bl_get _ _ _ hj, List.getElem?_replicate, if_pos hj]; unfold byteU byteN; simp
  · rw [List.getElem?_eq_none (by rw [bl_length]; omega), List.getElem?_eq_none (by simp; omega)]
theorem or_u8 (y k : Nat) (hy : y < 256) (hk : k < 8) : bits .or .u8 (y : Int) (IntKind.u8.wrap (2 ^ k)) = ((y ||| 2 ^ k : Nat) : Int) := by
  have h1 : 2 ^ k < 2 ^ 8 := Nat.pow_lt_pow_right (by decide) hk
  have e : IntKind.u8.wrap ((2 : Int) ^ k) = ((2 ^ k : Nat) : Int) := by
    rw [show (2 : Int) ^ k = ((2 ^ k : Nat) : Int) by rw [Int.natCast_pow]; rfl]
    generalize 2 ^ k = p at *
    simp [IntKind.wrap, IntKind.bits, IntKind.signed]
    omega
  rw [e, u8_or_nat _ _ hy h1]
theorem byteN_lt (X j : Nat) : byteN X j < 256 := Nat.mod_lt _ (by decide)
def PackOk (l : List UInt8) (w : World) (e : Ending) (w' : World) : Prop :=
  ∃ A n c, e = .returned (.slice A n c) ∧ Hid (n = l.length) ∧ Hid (Row w' w'.heap.size A n (bv l)) ∧ Hid (Below w.heap.size w w')
set_option maxRecDepth 100000 in
set_option maxHeartbeats 1600000 in
theorem r1pack_any (B n c X : Nat) (A : Option Addr) (w : World) (hr : Row w B A n (vb X n)) (hX : X < 2 ^ n) (hn : n ≤ 1000000) (hB : B ≤ w.heap.size) : Calls Tryd.prog 44 #[.slice A n c] w (PackOk (bl X n) w) := by
  have HR := Lib.hid hr
  have HX := Lib.hid hX
  have hbw : bw n ≤ 125001 := by unfold bw; omega
  have HBW : Hid (((n : Int) + 7) / 8 = (bw n : Int)) := by show _ = _; unfold bw; omega
  have hmk := madeU8 (bw n) (by omega)
  have hkb : ∀ k, k < n → k / 8 < bw n := by intro k hk; unfold bw; omega
  have HKB := Lib.hid hkb
  clear hr hX hkb
  go_enter Tryd.func44, Tryd.ntmps44
  go_wp2_with (rw [HBW.out])
  clear hmk
  go_loopw [13] (fun x wr => ∃ k : Nat, k ≤ n ∧ x = .int .i64 k ∧ Hid (wr.ownsRow w.heap.size 5 1 (.slice (some ⟨w.heap.size, 0, none⟩) (bw n) (bw n)) (bw n) (bv (bl (X % 2 ^ k) n))) ∧ Hid (Below w.heap.size w wr)) (fun x _ => n - (intOf x).toNat)
  case atStart =>
    refine ⟨0, by omega, rfl, ?_, (Below.refl _ _).alloc (Nat.le_refl _) _⟩
    show World.ownsRow _ _ _ _ _ _ _
    rw [show X % 2 ^ 0 = 0 by simp [Nat.mod_one], bl_zero]
    have := own_lit (w := w) (base := w.heap.size) (g := w.heap.size) (n := bw n) (e := 5) (Array.replicate (bw n) (.int .u8 0)) rfl (Nat.le_refl _) (by simp) (by unfold maxLen; omega)
    simpa [bv] using this
  case round =>
    obtain ⟨k, hk, rfl, hown, hbk⟩ := hrel
    by_cases hlt : k < n
    · obtain ⟨b, o, rfl, _, hc⟩ := (HR.out.below (hbk.out.mono hB)).cellAt hlt (vb_get X n k hlt)
      have HM := Lib.hid (mod_step X k)
      cases hbit : X.testBit k with
      | true =>
        have hkb := HKB.out k hlt
        rw [hbit] at hc HM
        have hfz := hown.out.frozenAt (k / 8)
        have hcs := (hown.out.cellAt (k / 8) (by omega)).trans (bv_get _ (k / 8) (by rw [bl_length]; exact hkb))
        have hge : (bl (X % 2 ^ k) n)[k / 8]'(by rw [bl_length]; exact hkb) = byteU (X % 2 ^ k) (k / 8) := by
          have := bl_get (X % 2 ^ k) n (k / 8) hkb
          rw [List.getElem?_eq_getElem (by rw [bl_length]; exact hkb)] at this
          exact Option.some.inj this
        rw [hge, byteU_toNat] at hcs
        have hst := Lib.hid (fun u => (hown.out.stored (k / 8) u).1)
        have hset := Lib.hid (fun v hv => bl_set (X % 2 ^ k) n k v hkb hv)
        have HOR := Lib.hid (or_u8 (byteN (X % 2 ^ k) (k / 8)) (k % 8) (byteN_lt _ _) (by omega))
        have hy := byteN_lt (X % 2 ^ k) (k / 8)
        generalize byteN (X % 2 ^ k) (k / 8) = y at *
        have hk8 : (k : Int) / 8 < (bw n : Int) := by omega
        clear hbit hge hown
        go_wp2_with fail
        have HM2 := HM.out
        rw [if_pos rfl] at HM2
        go_roundw
        case rel => exact ⟨k + 1, by omega, by go_num, by rw [HM2, ← hset.out _ HOR.out]; exact hst.out _, by exact hbk.out.setCell (Nat.le_refl _) _⟩
        case measure => simp [intOf]; omega
      | false =>
        rw [hbit] at hc HM
        have HM2 := HM.out
        rw [if_neg (by decide)] at HM2
        rw [← HM2] at hown
        clear hbit HM HM2
        go_wp2_with fail
        go_roundw
        case rel => exact ⟨k + 1, by omega, by go_num, hown, hbk⟩
        case measure => simp [intOf]; omega
    · obtain rfl : n = k := by omega
      have HE : Hid (X % 2 ^ n = X) := Nat.mod_eq_of_lt HX.out
      rw [HE.out] at hown
      go_wp2_with fail
      go_ret
      exact ⟨_, _, _, rfl, (bl_length X n).symm, Row.of_own hown.out, hbk⟩
set_option maxRecDepth 100000 in
set_option maxHeartbeats 1600000 in
theorem same5_yes (B1 B2 m c1 c2 : Nat) (A1 A2 : Option Addr) (l : List Int) (w : World) (h1 : Row w B1 A1 m (nv l)) (h2 : Row w B2 A2 m (nv l)) (hm : m ≤ 1000000) :
    Calls Tryd.prog 39 #[.slice A1 m c1, .slice A2 m c2] w (QB true w) := by
  have H1 := Lib.hid h1
  have H2 := Lib.hid h2
  have HL := Lib.hid (nv_length l ▸ h1.1)
  clear h1 h2
  go_enter Tryd.func39, Tryd.ntmps39
  go_wp2_with fail
  go_loopw [13] (fun i wr => ∃ k q : Nat, k ≤ m ∧ i = .int .i64 k ∧ wr = w.drewN q) (fun i _ => m - (intOf i).toNat)
  case atStart => exact ⟨0, 0, by omega, rfl, rfl⟩
  case round =>
    obtain ⟨k, q, hk, rfl, rfl⟩ := hrel
    by_cases hlt : k < m
    · obtain ⟨b, o, rfl, _, hc⟩ := H1.out.cellAt hlt (nv_get l k (by rw [HL.out]; exact hlt))
      obtain ⟨b2, o2, rfl, _, hc2⟩ := H2.out.cellAt hlt (nv_get l k (by rw [HL.out]; exact hlt))
      have hlt' : (k : Int) < (m : Int) := by omega
      have hk0 : (0 : Int) ≤ (k : Int) := by omega
      generalize l[k]'(by rw [HL.out]; exact hlt) = x at *
      go_wp2_with fail
      go_quiet (fail)
      go_wp2_with fail
      go_roundw
      case rel => exact ⟨k + 1, _, by omega, by go_num, rfl⟩
      case measure => simp [intOf]; omega
    · obtain rfl : m = k := by omega
      go_wp2_with fail
      go_ret
      exact ⟨rfl, q, rfl⟩
end Go.Proofs.YtgeodhffgbhmaaaDoor.Vc
namespace Go.Proofs.YtgeodhffgbhmaaaDoor.Vc
open Go.RowKit
open VecM
theorem infoBool : (Tryd.prog.info? 4).map (fun i => (i.zero, i.size, i.bytes)) = some (some (.bool false), 1, 1) := by kernel_rfl
theorem madeBool (m : Nat) (hm : m ≤ 1000000000) : ∀ w : World, (Instr.makeSlice 35 (.int .i64 (m : Int)) (.int .i64 (m : Int))).run Tryd.prog w = .ok (.slice (some ⟨w.heap.size, 0, none⟩) m m) (w.alloc (.cells (Array.replicate m (.bool false)) 4)) := by
  obtain ⟨i0, hi, hz0, hz1, hz2⟩ := info_parts infoBool
  intro w
  have h := run_make (P := Tryd.prog) w 35 4 i0 (.bool false) Tryd.underlying35 hi hz0 .i64 .i64 (m : Int) (m : Int) (by omega) (by omega) (by rw [hz2]; omega) (by omega)
  rw [hz1] at h
  have e : madeCells (Value.bool false).cells m = Array.replicate m (.bool false) := by
    apply Array.toList_inj.1
    rw [Array.toList_replicate]
    exact toList_madeCells_one (.bool false) m
  simpa [e] using h
theorem vb_zero (n : Nat) : vb 0 n = List.replicate n (.bool false) := by
  apply List.ext_getElem?
  intro j
  by_cases hj : j < n
  · rw [vb_get _ _ _ hj, List.getElem?_replicate, if_pos hj, Nat.zero_testBit]
  · rw [List.getElem?_eq_none (by rw [vb_length]; omega), List.getElem?_eq_none (by simp; omega)]
theorem vb_own (w : World) (n : Nat) (hn : n ≤ 1000000) : (w.alloc (.cells (Array.replicate n (.bool false)) 4)).ownsRow w.heap.size 4 1 (.slice (some ⟨w.heap.size, 0, none⟩) n n) n (vb 0 n) := by
  rw [vb_zero]
  have := own_lit (w := w) (base := w.heap.size) (g := w.heap.size) (n := n) (e := 4) (Array.replicate n (.bool false)) rfl (Nat.le_refl _) (by simp) (by unfold maxLen; omega)
  simpa using this
theorem vb_put (X n k : Nat) (on : Bool) (hk : k < n) : (vb X n).set k (.bool on) = vb (put X k on) n := by
  apply List.ext_getElem?
  intro j
  rw [List.getElem?_set]
  have hb : (put X k on).testBit j = if k = j then on else X.testBit j := by
    unfold put
    cases on with
    | true =>
      rw [if_pos rfl, Nat.testBit_or, Nat.testBit_two_pow]
      by_cases e : k = j
      · simp [e]
      · simp [e]
    | false =>
      rw [if_neg (by decide), clr_bit]
      by_cases e : k = j
      · subst e; simp
      · have e2 : j ≠ k := fun e' => e e'.symm
        simp [e, e2]
  by_cases hj : j < n
  · rw [vb_get _ _ _ hj, vb_get _ _ _ hj, hb]
    by_cases e : k = j
    · rw [if_pos e, if_pos (by rw [vb_length]; omega), if_pos e]
    · rw [if_neg e, if_neg e]
  · rw [List.getElem?_eq_none (by rw [vb_length]; omega), List.getElem?_eq_none (by rw [vb_length]; omega)]
    split
    · rw [if_neg (by rw [vb_length]; omega)]
    · rfl
theorem put_true (X k : Nat) : put X k true = X ||| 2 ^ k := by unfold put; rw [if_pos rfl]
/-- bits of the call's own -/
def BitsOk (n X : Nat) (w : World) (e : Ending) (w' : World) : Prop :=
  ∃ g, e = .returned (.slice (some ⟨g, 0, none⟩) n n) ∧ Hid (w'.ownsRow w.heap.size 4 1 (.slice (some ⟨g, 0, none⟩) n n) n (vb X n)) ∧ Hid (Below w.heap.size w w')
set_option maxRecDepth 100000 in
set_option maxHeartbeats 1600000 in
theorem r1bits_any (n : Nat) (A : Option Addr) (m c B : Nat) (zs : List Int) (w : World) (hr : Row w B A m (nv zs)) (hB : B ≤ w.heap.size) (hm : m ≤ 4611686018427387904) (h : n ≤ 256) : Calls Tryd.prog 11 #[.int .i64 (n : Int), .slice A m c] w (BitsOk n (ofL n zs) w) := by
  have HR := Lib.hid hr
  have HL := Lib.hid (nv_length zs ▸ hr.1)
  have hmk := madeBool n (by omega)
  have HOW := Lib.hid (vb_own w n (by omega))
  clear hr
  go_enter Tryd.func11, Tryd.ntmps11
  go_wp2_with fail
  clear hmk
  go_loopw [12] (fun i wr => ∃ k : Nat, k ≤ m ∧ i = .int .i64 k ∧ Hid (wr.ownsRow w.heap.size 4 1 (.slice (some ⟨w.heap.size, 0, none⟩) n n) n (vb (ofL n (zs.take k)) n)) ∧ Hid (Below w.heap.size w wr)) (fun i _ => m - (intOf i).toNat)
  case atStart => exact ⟨0, by omega, rfl, HOW, (Below.refl _ _).alloc (Nat.le_refl _) _⟩
  case round =>
    obtain ⟨k, hk, rfl, hown, hbk⟩ := hrel
    by_cases hlt : k < m
    · have hkl : k < zs.length := by rw [HL.out]; exact hlt
      obtain ⟨b, o, rfl, hbB, hc⟩ := (HR.out.below (hbk.out.mono hB)).cellAt hlt (nv_get zs k hkl)
      have HT := Lib.hid (ofL_take n zs k hkl)
      generalize zs[k]'hkl = z at *
      by_cases hz : 0 ≤ z ∧ z < (n : Int)
      · obtain ⟨j, rfl⟩ : ∃ j : Nat, z = (j : Int) := ⟨z.toNat, by omega⟩
        have hj : j < n := by omega
        have hfz := hown.out.frozenAt j
        have hcs := (hown.out.cellAt j (by omega)).trans (vb_get (ofL n (zs.take k)) n j hj)
        have hst := Lib.hid ((hown.out.stored j (.bool true)).1)
        have hset := Lib.hid (vb_put (ofL n (zs.take k)) n j true hj)
        have HX : Hid (ofL n (zs.take (k + 1)) = put (ofL n (zs.take k)) j true) := by
          show _ = _
          rw [HT.out, put_true]; unfold setOne; rw [if_pos hz, Int.toNat_natCast]
        have hjn : (j : Int) < (n : Int) := by omega
        clear hz hown HT
        go_wp2_with fail
        go_roundw
        case rel => exact ⟨k + 1, by omega, by go_num, by rw [HX.out, ← hset.out]; exact hst, by exact hbk.out.setCell (Nat.le_refl _) _⟩
        case measure => simp [intOf]; omega
      · have HX : Hid (ofL n (zs.take (k + 1)) = ofL n (zs.take k)) := by
          show _ = _
          rw [HT.out]; unfold setOne; rw [if_neg hz]
        rw [← HX.out] at hown
        by_cases hz0 : 0 ≤ z
        · have hzn : ¬ z < (n : Int) := fun h => hz ⟨hz0, h⟩
          clear hz HT HX
          go_wp2_with fail
          go_roundw
          case rel => exact ⟨k + 1, by omega, by go_num, hown, hbk⟩
          case measure => simp [intOf]; omega
        · clear hz HT HX
          go_wp2_with fail
          go_roundw
          case rel => exact ⟨k + 1, by omega, by go_num, hown, hbk⟩
          case measure => simp [intOf]; omega
    · obtain rfl : m = k := by omega
      rw [List.take_of_length_le (by rw [HL.out]; omega)] at hown
      go_wp2_with fail
      go_ret
      exact ⟨_, rfl, hown, hbk⟩
theorem and_one_u8 (x k : Nat) (h : x < 256) : bits .and .u8 ((x : Int) / 2 ^ k) 1 = ((x / 2 ^ k % 2 : Nat) : Int) := by
  have h2 : x / 2 ^ k < 256 := Nat.lt_of_le_of_lt (Nat.div_le_self _ _) h
  rw [cast_shr]
  have := u8_and_nat (x / 2 ^ k) 1 h2 (by decide)
  rw [Nat.and_one_is_mod] at this
  exact this
theorem frN_at (l : List UInt8) (m k : Nat) (hk : k / 8 < m) : (l.getD (k / 8) 0).toNat / 2 ^ (k % 8) % 2 = if (frN l m).testBit k then 1 else 0 := by
  rw [frN_bit]
  simp only [hk, decide_true, Bool.true_and]
  rw [Nat.testBit_eq_decide_div_mod_eq]
  generalize (l.getD (k / 8) 0).toNat / 2 ^ (k % 8) = q
  by_cases e : q % 2 = 1
  · simp [e]
  · have e2 : q % 2 = 0 := by omega
    simp [e2]
def UnpackOk (n X : Nat) (w : World) (e : Ending) (w' : World) : Prop :=
  ∃ g, e = .returned (.tuple #[.slice (some ⟨g, 0, none⟩) n n, .bool true]) ∧ Hid (w'.ownsRow w.heap.size 4 1 (.slice (some ⟨g, 0, none⟩) n n) n (vb X n)) ∧ Hid (Below w.heap.size w w')
def UnpackNo (w : World) (e : Ending) (w' : World) : Prop := e = .returned (.tuple #[.slice none 0 0, .bool false]) ∧ Hid (Below w.heap.size w w')
set_option maxRecDepth 100000 in
theorem unpack_bad (x : Int) (A : Option Addr) (m c : Nat) (w : World) (h : x < 0 ∨ 256 < x) : Calls Tryd.prog 50 #[.int .i64 x, .slice A m c] w (UnpackNo w) := by
  rcases h with h | h
  · go_enter Tryd.func50, Tryd.ntmps50
    go_wp2_with fail
    go_ret2
    exact ⟨rfl, Below.refl _ _⟩
  · have h0 : ¬ x < 0 := by omega
    go_enter Tryd.func50, Tryd.ntmps50
    go_wp2_with fail
    go_ret2
    exact ⟨rfl, Below.refl _ _⟩
set_option maxRecDepth 100000 in
theorem unpack_len (n : Nat) (A : Option Addr) (m c : Nat) (w : World) (hn : n ≤ 256) (h : m ≠ bw n) : Calls Tryd.prog 50 #[.int .i64 (n : Int), .slice A m c] w (UnpackNo w) := by
  have HBW : Hid (((n : Int) + 7) / 8 = (bw n : Int)) := by show _ = _; unfold bw; omega
  have hne : ((m : Int) != (bw n : Int)) = true := by simp; omega
  go_enter Tryd.func50, Tryd.ntmps50
  go_wp2_with (rw [HBW.out])
  go_ret2
  exact ⟨rfl, Below.refl _ _⟩
/-- both ends of Unpack of as many bytes as there should be -/
def UnpackEnd (n X : Nat) (w : World) (e : Ending) (w' : World) : Prop := (X < 2 ^ n ∧ UnpackOk n X w e w') ∨ (¬ X < 2 ^ n ∧ UnpackNo w e w')
set_option maxRecDepth 100000 in
set_option maxHeartbeats 1600000 in
theorem unpack_any (n : Nat) (A : Option Addr) (m c B : Nat) (l : List UInt8) (w : World) (hr : Row w B A m (bv l)) (hB : B ≤ w.heap.size) (hn : n ≤ 256) (hm : m = bw n) : Calls Tryd.prog 50 #[.int .i64 (n : Int), .slice A m c] w (UnpackEnd n (frN l m) w) := by
  have HR := Lib.hid hr
  have HL := Lib.hid hr.blen
  have HBW : Hid (((n : Int) + 7) / 8 = (m : Int)) := by show _ = _; rw [hm]; unfold bw; omega
  have hmk := madeBool n (by omega)
  have HOW := Lib.hid (vb_own w n (by omega))
  have hm32 : m ≤ 32 := by rw [hm]; unfold bw; omega
  have hnm : n ≤ 8 * m := by rw [hm]; unfold bw; omega
  have HFB : Hid (∀ j, 8 * m ≤ j → (frN l m).testBit j = false) := fun j hj => by
    rw [frN_bit, decide_eq_false (show ¬ j / 8 < m by omega), Bool.false_and]
  have HAT := Lib.hid (fun k (hk : k / 8 < m) => frN_at l m k hk)
  obtain ⟨X, hX⟩ : ∃ X, frN l m = X := ⟨_, rfl⟩
  rw [hX] at HFB HAT ⊢
  clear hr hm hX
  go_enter Tryd.func50, Tryd.ntmps50
  go_wp2_with (rw [HBW.out])
  clear hmk
  go_loopw [27] (fun i wr => ∃ k : Nat, k ≤ 8 * m ∧ i = .int .i64 k ∧ Hid (∀ j, j < k → n ≤ j → X.testBit j = false) ∧ Hid (wr.ownsRow w.heap.size 4 1 (.slice (some ⟨w.heap.size, 0, none⟩) n n) n (vb (X % 2 ^ k) n)) ∧ Hid (Below w.heap.size w wr)) (fun i _ => 8 * m - (intOf i).toNat)
  case atStart => exact ⟨0, by omega, rfl, fun j hj => by omega, by rw [show X % 2 ^ 0 = 0 by simp [Nat.mod_one]]; exact HOW, (Below.refl _ _).alloc (Nat.le_refl _) _⟩
  case round =>
    obtain ⟨k, hk, rfl, hno, hown, hbk⟩ := hrel
    by_cases hlt : k < 8 * m
    · have hk8 : k / 8 < m := by omega
      have hll := HL.out
      obtain ⟨b, o, rfl, hbB, hl, hc⟩ := (HR.out.below (hbk.out.mono hB)).byteAt hk8
      have hxx : l[k / 8]'hl = l.getD (k / 8) 0 := by simp [List.getD, hl]
      rw [hxx] at hc
      have hy := byte_lt (l.getD (k / 8) 0)
      have hbit := HAT.out k hk8
      have HM := Lib.hid (mod_step X k)
      have HAN := Lib.hid (and_one_u8 (l.getD (k / 8) 0).toNat (k % 8) hy)
      rw [hbit] at HAN
      have hk8i : (k : Int) / 8 < (m : Int) := by omega
      have hk8z : (0 : Int) ≤ (k : Int) / 8 := by omega
      generalize (l.getD (k / 8) 0).toNat = y at *
      clear hxx hbit hll
      cases hb : X.testBit k with
      | true =>
        rw [hb] at HAN HM
        by_cases hkn : k < n
        · have hfz := hown.out.frozenAt k
          have hcs := (hown.out.cellAt k (by omega)).trans (vb_get (X % 2 ^ k) n k hkn)
          have hst := Lib.hid ((hown.out.stored k (.bool true)).1)
          have hset := Lib.hid (vb_put (X % 2 ^ k) n k true hkn)
          have HX : Hid (X % 2 ^ (k + 1) = put (X % 2 ^ k) k true) := by
            show _ = _
            rw [HM.out, put_true, if_pos rfl]
          have HN : Hid (∀ j, j < k + 1 → n ≤ j → X.testBit j = false) := fun j hj hnj => hno.out j (by omega) hnj
          have hkn' : ¬ (n : Int) ≤ (k : Int) := by omega
          clear hb hown HM hno
          go_wp2_with (rw [HAN.out])
          go_roundw
          case rel => exact ⟨k + 1, by omega, by go_num, HN, by rw [HX.out, ← hset.out]; exact hst, by exact hbk.out.setCell (Nat.le_refl _) _⟩
          case measure => simp [intOf]; omega
        · have HNL : Hid (¬ X < 2 ^ n) := fun h => by
            rw [Nat.testBit_lt_two_pow (Nat.lt_of_lt_of_le h (Nat.pow_le_pow_right (by decide) (by omega)))] at hb; cases hb
          have hkn' : (n : Int) ≤ (k : Int) := by omega
          clear hb hown HM hno hkn
          go_wp2_with (rw [HAN.out])
          go_ret2
          exact .inr ⟨HNL, rfl, hbk⟩
      | false =>
        rw [hb] at HAN HM
        have HN : Hid (∀ j, j < k + 1 → n ≤ j → X.testBit j = false) := fun j hj hnj => by
          rcases Nat.lt_succ_iff_lt_or_eq.1 hj with h | h
          · exact hno.out j h hnj
          · subst h; exact hb
        have HM2 := HM.out
        rw [if_neg (by decide)] at HM2
        rw [← HM2] at hown
        clear hb HM hno HM2
        go_wp2_with (rw [HAN.out])
        go_roundw
        case rel => exact ⟨k + 1, by omega, by go_num, HN, hown, hbk⟩
        case measure => simp [intOf]; omega
    · obtain rfl : k = 8 * m := by omega
      have hXn : X < 2 ^ n := by
        apply Nat.lt_pow_two_of_testBit
        intro i hi
        by_cases h : i < 8 * m
        · exact hno.out i h hi
        · exact HFB.out i (by omega)
      have HXN := Lib.hid hXn
      have HE : Hid (X % 2 ^ (8 * m) = X) := Nat.mod_eq_of_lt (Nat.lt_of_lt_of_le hXn (Nat.pow_le_pow_right (by decide) hnm))
      rw [HE.out] at hown
      clear hXn
      go_wp2_with fail
      go_ret2
      exact .inl ⟨HXN.out, _, rfl, hown, hbk⟩
theorem clr_no (X i : Nat) (h : X.testBit i = false) : clr X i = X := by
  apply Nat.eq_of_testBit_eq; intro j
  rw [clr_bit]
  by_cases e : j = i
  · subst e; simp [h]
  · simp [e]
theorem mod_put (W k : Nat) : W % 2 ^ (k + 1) = put (W % 2 ^ k) k (W.testBit k) := by
  rw [mod_step]
  cases h : W.testBit k with
  | true => rw [if_pos rfl, put_true]
  | false =>
    rw [if_neg (by decide)]
    unfold put
    rw [if_neg (by decide), clr_no]
    rw [Nat.testBit_mod_two_pow]; simp
set_option maxRecDepth 100000 in
set_option maxHeartbeats 1600000 in
theorem r1xor_any (B n c1 c2 X Y : Nat) (A1 A2 : Option Addr) (w : World) (h1 : Row w B A1 n (vb X n)) (h2 : Row w B A2 n (vb Y n)) (hX : X < 2 ^ n) (hY : Y < 2 ^ n) (hn : n ≤ 1000000) (hB : B ≤ w.heap.size) :
    Calls Tryd.prog 36 #[.slice A1 n c1, .slice A2 n c2] w (BitsOk n (X ^^^ Y) w) := by
  have H1 := Lib.hid h1
  have H2 := Lib.hid h2
  have HZ : Hid (X ^^^ Y < 2 ^ n) := Nat.xor_lt_two_pow hX hY
  have hmk := madeBool n (by omega)
  have HOW := Lib.hid (vb_own w n hn)
  have HBX := Lib.hid (fun k => Nat.testBit_xor (x := X) (y := Y) (i := k))
  have HMP := Lib.hid (mod_put (X ^^^ Y))
  obtain ⟨Z, hZ⟩ : ∃ Z, X ^^^ Y = Z := ⟨_, rfl⟩
  rw [hZ] at HZ HBX HMP ⊢
  clear h1 h2 hX hY hZ
  go_enter Tryd.func36, Tryd.ntmps36
  go_wp2_with fail
  clear hmk
  go_loopw [12] (fun x wr => ∃ k : Nat, k ≤ n ∧ x = .int .i64 k ∧ Hid (wr.ownsRow w.heap.size 4 1 (.slice (some ⟨w.heap.size, 0, none⟩) n n) n (vb (Z % 2 ^ k) n)) ∧ Hid (Below w.heap.size w wr)) (fun x _ => n - (intOf x).toNat)
  case atStart => exact ⟨0, by omega, rfl, by rw [show Z % 2 ^ 0 = 0 by simp [Nat.mod_one]]; exact HOW, (Below.refl _ _).alloc (Nat.le_refl _) _⟩
  case round =>
    obtain ⟨k, hk, rfl, hown, hbk⟩ := hrel
    by_cases hlt : k < n
    · obtain ⟨b1, o1, rfl, hb1, e1⟩ := (H1.out.below (hbk.out.mono hB)).cellAt hlt (vb_get X n k hlt)
      obtain ⟨b2, o2, rfl, hb2, e2⟩ := (H2.out.below (hbk.out.mono hB)).cellAt hlt (vb_get Y n k hlt)
      have hfz := hown.out.frozenAt k
      have hcs := (hown.out.cellAt k (by omega)).trans (vb_get (Z % 2 ^ k) n k hlt)
      have hst := Lib.hid (fun b => (hown.out.stored k (.bool b)).1)
      have hset := Lib.hid (fun b => vb_put (Z % 2 ^ k) n k b hlt)
      have HX : Hid (Z % 2 ^ (k + 1) = put (Z % 2 ^ k) k (X.testBit k ^^ Y.testBit k)) := by
        show _ = _
        rw [HMP.out, HBX.out]
      have hki : (k : Int) < (n : Int) := by omega
      have hk0 : (0 : Int) ≤ (k : Int) := by omega
      generalize X.testBit k = x at *
      generalize Y.testBit k = y at *
      clear hown
      go_wp2_with fail
      go_region
      all_goals
        go_wp2_with fail
        go_roundw
        case rel => exact ⟨k + 1, by omega, by go_num, by rw [HX.out, ← hset.out]; exact hst.out _, (hbk.out.setCell (Nat.le_refl _) _).drew⟩
        case measure => simp [intOf]; omega
    · obtain rfl : n = k := by omega
      have HE : Hid (Z % 2 ^ n = Z) := Nat.mod_eq_of_lt HZ.out
      rw [HE.out] at hown
      go_wp2_with fail
      go_ret
      exact ⟨_, rfl, hown, hbk⟩
theorem fits_iff {n m : Nat} {l : List UInt8} (hl : l.length = m) : fits n l ↔ m = bw n ∧ frN l m < 2 ^ n := by
  constructor
  · intro h
    have hm : m = bw n := by rw [← hl]; exact h.1
    exact ⟨hm, frN_lt h m (by omega)⟩
  · rintro ⟨hm, h⟩
    refine ⟨by omega, fun h8 => ?_⟩
    apply Nat.lt_pow_two_of_testBit
    intro i hi
    by_cases hi8 : i < 8
    · have hb : bw n - 1 < bw n := by unfold bw; omega
      have h2 := frN_bit l (8 * (bw n - 1) + i) m
      rw [Nat.testBit_lt_two_pow (Nat.lt_of_lt_of_le h (Nat.pow_le_pow_right (by decide) (by unfold bw; omega))), show (8 * (bw n - 1) + i) / 8 = bw n - 1 by omega, show (8 * (bw n - 1) + i) % 8 = i by omega, hm] at h2
      simp only [hb, decide_true, Bool.true_and] at h2
      exact h2.symm
    · exact Nat.testBit_lt_two_pow (Nat.lt_of_lt_of_le (byte_lt _) (Nat.pow_le_pow_right (by decide) (by omega)))
theorem unpack_yes (n : Nat) (A : Option Addr) (m c B : Nat) (l : List UInt8) (w : World) (hr : Row w B A m (bv l)) (hB : B ≤ w.heap.size) (hn : n ≤ 256) (hf : fits n l) : Calls Tryd.prog 50 #[.int .i64 (n : Int), .slice A m c] w (UnpackOk n (frN l (bw n)) w) := by
  obtain ⟨hm, h⟩ := (fits_iff hr.blen).1 hf
  subst hm
  refine (unpack_any n A _ c B l w hr hB hn rfl).mono ?_
  rintro e w' (⟨_, h2⟩ | ⟨h2, _⟩)
  · exact h2
  · exact absurd h h2
theorem unpack_no (n : Nat) (A : Option Addr) (m c B : Nat) (l : List UInt8) (w : World) (hr : Row w B A m (bv l)) (hB : B ≤ w.heap.size) (hn : n ≤ 256) (hf : ¬ fits n l) : Calls Tryd.prog 50 #[.int .i64 (n : Int), .slice A m c] w (UnpackNo w) := by
  by_cases hm : m = bw n
  · refine (unpack_any n A m c B l w hr hB hn hm).mono ?_
    rintro e w' (⟨h2, _⟩ | ⟨_, h2⟩)
    · exact absurd ((fits_iff hr.blen).2 ⟨hm, h2⟩) hf
    · exact h2
  · exact unpack_len n A m c w hn hm
end Go.Proofs.YtgeodhffgbhmaaaDoor.Vc
