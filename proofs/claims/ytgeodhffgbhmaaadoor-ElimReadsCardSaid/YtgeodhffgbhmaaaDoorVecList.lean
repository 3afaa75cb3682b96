/- vec's First, Count, List: by contract. -/
import Derived.Test.YtgeodhffgbhmaaaDoorVecBits
namespace Go.Proofs.YtgeodhffgbhmaaaDoor.Vc
open Go.RowKit
open VecM
/-- all places of a row -/
def Ls (X : Nat) : List Nat := L X 256
def firstI : List Nat → Int
  | [] => -1
  | c :: _ => (c : Int)
theorem Ls_words {X n : Nat} (hX : X < 2 ^ n) (hn : n ≤ 256) : L X (64 * mw n) = Ls X := by
  unfold Ls mw
  rw [L_more hX (by omega : n ≤ 64 * ((n + 63) / 64)), L_more hX hn]
theorem L_app (X a b : Nat) : ∃ r, L X (a + b) = L X a ++ r := by
  unfold L
  rw [List.range_add, List.filter_append]
  exact ⟨_, rfl⟩
theorem first_at {X k : Nat} (hk : k < 4) (h : L X (64 * k) = []) (h0 : word X k ≠ 0) : firstI (Ls X) = ((64 * k + Lib.ctz 64 (word X k) : Nat) : Int) := by
  obtain ⟨c, hc, hlt, h1, h2, h3⟩ := low_bits (word X k) h0 (word_lt X k)
  obtain ⟨r, hr⟩ := L_app X (64 * (k + 1)) (256 - 64 * (k + 1))
  rw [show 64 * (k + 1) + (256 - 64 * (k + 1)) = 256 by omega, L_step, h, L_low _ c 64 hlt h1 h2] at hr
  unfold Ls
  rw [hr, hc]; rfl
theorem step_nil {X k : Nat} (h : L X (64 * k) = []) (h0 : word X k = 0) : L X (64 * (k + 1)) = [] := by
  rw [L_step, h, h0, L_zero]; rfl
theorem L_none (X : Nat) : L X (64 * 0) = [] := rfl
set_option maxRecDepth 100000 in
theorem first_nil (w : World) : Calls Tryd.prog 30 #[.pointer none] w fun e w' => e = .returned (.int .i64 (-1)) ∧ w = w' := by
  go_enter Tryd.func30, Tryd.ntmps30
  go_wp2_with fail
  go_ret
  exact ⟨rfl, rfl⟩
set_option maxRecDepth 100000 in
set_option maxHeartbeats 1600000 in
theorem first_any (g h n X : Nat) (w : World) (v : VecAt w g h n X) (ht : DTab w) : Calls Tryd.prog 30 #[.pointer (some ⟨g, 0, none⟩)] w fun e w' => e = .returned (.int .i64 (firstI (Ls X))) ∧ w = w' := by
  obtain ⟨cap, h1, h2, c0, c1⟩ := v.cells
  have hm := mw_le v.1
  have HV := Lib.hid v
  have HT := Lib.hid ht
  clear v ht
  go_enter Tryd.func30, Tryd.ntmps30
  go_wp2_with fail
  go_loop [12] (fun i => ∃ k : Nat, k ≤ mw n ∧ i = .int .i64 k ∧ Hid (L X (64 * k) = [])) (fun i => mw n - (intOf i).toNat)
  case atStart => exact ⟨0, by omega, rfl, L_none X⟩
  case round =>
    obtain ⟨k, hk, rfl, hL⟩ := hrel
    by_cases hlt : k < mw n
    · have hc := HV.out.at_ hlt
      have hw := word_lt X k
      by_cases h0 : word X k = 0
      · have HN := Lib.hid (step_nil hL.out h0)
        rw [h0] at hc
        clear h0 hw hL
        go_wp2_with fail
        go_round
        case rel => exact ⟨k + 1, by omega, by go_num, HN⟩
        case measure => simp [intOf]; omega
      · have HF := Lib.hid (first_at (by omega) hL.out h0)
        have HZ := Lib.hid (tz_any (word X k) w HT.out hw h0)
        have hcz : Lib.ctz 64 (word X k) < 64 := (Lib.lowest_bit 64 _ h0 hw).2
        generalize Lib.ctz 64 (word X k) = z at *
        have hne : ((word X k : Int) != 0) = true := by simp; omega
        generalize word X k = x at *
        clear h0 hw hL
        go_wp2_with fail
        refine HZ.out.mono ?_
        rintro e w' ⟨rfl, rfl⟩
        go_wp2_with fail
        go_ret
        refine ⟨?_, rfl⟩
        rw [HF.out]
        show Ending.returned (.int .i64 _) = _
        congr 2
        push_cast
        omega
    · obtain rfl : mw n = k := by omega
      have HF : Hid (firstI (Ls X) = -1) := by
        show _ = _
        rw [← Ls_words HV.out.2.1 HV.out.1, hL.out]; rfl
      clear hL
      go_wp2_with fail
      go_ret
      exact ⟨by rw [HF.out]; rfl, rfl⟩
set_option maxRecDepth 100000 in
theorem count_nil (w : World) : Calls Tryd.prog 42 #[.pointer none] w fun e w' => e = .returned (.int .i64 0) ∧ w = w' := by
  go_enter Tryd.func42, Tryd.ntmps42
  go_wp2_with fail
  go_ret
  exact ⟨rfl, rfl⟩
theorem L_le (X n : Nat) : (L X n).length ≤ n := by
  unfold L
  have := List.length_filter_le X.testBit (List.range n)
  rwa [List.length_range] at this
set_option maxRecDepth 100000 in
set_option maxHeartbeats 1600000 in
theorem count_any (g h n X : Nat) (w : World) (v : VecAt w g h n X) : Calls Tryd.prog 42 #[.pointer (some ⟨g, 0, none⟩)] w fun e w' => e = .returned (.int .i64 ((Ls X).length : Int)) ∧ w = w' := by
  obtain ⟨cap, h1, h2, c0, c1⟩ := v.cells
  have hm := mw_le v.1
  have HV := Lib.hid v
  clear v
  go_enter Tryd.func42, Tryd.ntmps42
  go_wp2_with fail
  go_loop [3, 13] (fun q i => ∃ k s : Nat, k ≤ mw n ∧ i = .int .i64 k ∧ q = .int .i64 s ∧ Hid ((L X (64 * k)).length = s)) (fun _ i => mw n - (intOf i).toNat)
  case atStart => exact ⟨0, 0, by omega, rfl, rfl, rfl⟩
  case round =>
    obtain ⟨k, s, hk, rfl, rfl, hL⟩ := hrel
    by_cases hlt : k < mw n
    · have hc := HV.out.at_ hlt
      have HO := Lib.hid (ones_any (word X k) w (word_lt X k))
      obtain ⟨q, hq⟩ : ∃ q, pop 64 (word X k) = q := ⟨_, rfl⟩
      have hs : s ≤ 256 := by rw [← hL.out]; exact Nat.le_trans (L_le _ _) (by omega)
      have hq2 : q ≤ 64 := by rw [← hq, ← pop_L]; exact L_le _ _
      have HL : Hid ((L X (64 * (k + 1))).length = s + q) := by
        show _ = _
        rw [L_step, List.length_append, List.length_map, pop_L 64 (word X k), hq, hL.out]
      rw [hq] at HO
      generalize word X k = x at *
      clear hL hq
      go_wp2_with fail
      refine HO.out.mono ?_
      rintro e w' ⟨rfl, rfl⟩
      go_wp2_with fail
      go_round
      case rel => exact ⟨k + 1, s + q, by omega, by go_num, by go_num, HL⟩
      case measure => simp [intOf]; omega
    · obtain rfl : mw n = k := by omega
      have HF : Hid ((Ls X).length = s) := by
        show _ = _
        rw [← Ls_words HV.out.2.1 HV.out.1, hL.out]
      clear hL
      go_wp2_with fail
      go_ret
      exact ⟨by rw [HF.out]; rfl, rfl⟩
def ListOk (X : Nat) (w : World) (e : Ending) (w' : World) : Prop :=
  ∃ A c, e = .returned (.slice A (Ls X).length c) ∧ Hid (w'.ownsRow w.heap.size 3 1 (.slice A (Ls X).length c) (Ls X).length (nv ((Ls X).map fun i : Nat => (i : Int)))) ∧ Hid (Below w.heap.size w w')
theorem infoI64 : (Tryd.prog.info? 3).map (fun i => (i.zero, i.size, i.bytes)) = some (some (.int .i64 0), 1, 8) := by kernel_rfl
set_option maxRecDepth 100000 in
theorem list_nil (w : World) : Calls Tryd.prog 40 #[.pointer none] w fun e w' => e = .returned (.slice none 0 0) ∧ w = w' := by
  go_enter Tryd.func40, Tryd.ntmps40
  go_wp2_with fail
  go_ret
  exact ⟨rfl, rfl⟩
def ni (l : List Nat) : List Value := nv (l.map fun i : Nat => (i : Int))
theorem ni_append (l m : List Nat) : ni (l ++ m) = ni l ++ ni m := by simp [ni, nv]
theorem ni_length (l : List Nat) : (ni l).length = l.length := by simp [ni, nv]
theorem ni_one (l : List Nat) : ∀ u ∈ ni l, u.oneCell' = true := by
  intro u hu
  simp only [ni, nv, List.map_map, List.mem_map] at hu
  obtain ⟨x, _, rfl⟩ := hu
  rfl
set_option maxRecDepth 100000 in
set_option maxHeartbeats 3200000 in
theorem list_any (g h n X : Nat) (w : World) (v : VecAt w g h n X) (ht : DTab w) : Calls Tryd.prog 40 #[.pointer (some ⟨g, 0, none⟩)] w (ListOk X w) := by
  obtain ⟨i0, hi, hz0, hz1, hz2⟩ := info_parts infoI64
  obtain ⟨cap, h1, h2, c0, c1⟩ := v.cells
  have hm := mw_le v.1
  have HV := Lib.hid v
  have HT := Lib.hid ht
  clear v ht
  go_enter Tryd.func40, Tryd.ntmps40
  go_wp2_with fail
  go_loopw [3, 13] (fun q i wr => ∃ k s : Nat, k ≤ mw n ∧ s ≤ 256 ∧ i = .int .i64 k ∧ Hid ((L X (64 * k)).length = s) ∧ Hid (wr.ownsRow w.heap.size 3 1 q s (ni (L X (64 * k)))) ∧ Hid (Below w.heap.size w wr)) (fun _ i _ => mw n - (intOf i).toNat)
  case atStart => exact ⟨0, 0, by omega, by omega, rfl, rfl, World.ownsRow_nil _ _ _ _, Below.refl _ _⟩
  case round =>
    obtain ⟨k, s, hk, hs, rfl, hL, hown, hb⟩ := hrel
    by_cases hlt : k < mw n
    · have hVr := Lib.hid (HV.out.below hb.out)
      have hc := hVr.out.at_ hlt
      have hw := word_lt X k
      have HLs := Lib.hid (L_step X k)
      have hk4 : k < 4 := by omega
      have hLm : Hid ((L X (64 * (k + 1))).length ≤ 256) := Nat.le_trans (L_le _ _) (by omega)
      generalize hx : word X k = x at *
      obtain ⟨wo, rfl⟩ : ∃ wo : World, wo = wr := ⟨_, rfl⟩
      have HHS := Lib.hid hb.out.size
      go_wp2_with fail
      go_loopw [3, 5] (fun q y wr => ∃ y' s' : Nat, y = .int .u64 y' ∧ y' < 2 ^ 64 ∧ s' ≤ 256 ∧ Hid ((L X (64 * (k + 1))).length = s' + (L y' 64).length) ∧ Hid (∃ D, D ++ (L y' 64).map (64 * k + ·) = L X (64 * (k + 1)) ∧ D.length = s' ∧ wr.ownsRow w.heap.size 3 1 q s' (ni D)) ∧ Hid (Below w.heap.size w wr)) (fun _ y _ => (L (intOf y).toNat 64).length)
      case atStart => exact ⟨x, s, rfl, hw, hs, by show _ = _; rw [HLs.out, List.length_append, List.length_map, hL.out], ⟨_, HLs.out.symm, hL.out, hown.out⟩, hb⟩
      case round =>
        obtain ⟨y, s2, rfl, hy, hs2, hlen, hD, hb2⟩ := hrel
        by_cases h0 : y = 0
        · subst h0
          have HN : Hid ((L X (64 * (k + 1))).length = s2) := by
            show _ = _
            rw [hlen.out, L_zero]; rfl
          obtain ⟨D, hD1, hD2, hD3⟩ := hD.out
          rw [L_zero, List.map_nil, List.append_nil] at hD1
          rw [hD1] at hD3
          have HO := Lib.hid hD3
          clear hD1 hD2 hD3 hD hlen
          go_wp2_with fail
          go_roundw
          case rel => exact ⟨k + 1, s2, by omega, hs2, by go_num, HN, HO, hb2⟩
          case measure => simp [intOf]; omega
        · obtain ⟨c, hc1, hc2, hc3, hc4, hc5⟩ := low_bits y h0 hy
          have hLL := L_low y c 64 hc2 hc3 hc4
          obtain ⟨D, hD1, hD2, hD3⟩ := hD.out
          have HZ := Lib.hid (fun w' (h : DTab w') => tz_any y w' h hy h0)
          rw [hc1] at HZ
          have hTr := HT.out.below hb2.out (by have := HT.out.1; exact this)
          have hyn : ((y : Int) != 0) = true := by simp; omega
          have hyz : 1 ≤ (y : Int) := by omega
          have hlen2 : Hid ((L X (64 * (k + 1))).length = s2 + 1 + (L (clr y c) 64).length) := by
            show _ = _
            rw [hlen.out, hLL, List.length_cons]; omega
          have hs3 : s2 + 1 ≤ 256 := by have := hLm.out; rw [hlen2.out] at this; omega
          have hDD : Hid ((D ++ [64 * k + c]) ++ (L (clr y c) 64).map (64 * k + ·) = L X (64 * (k + 1))) := by
            show _ = _
            rw [← hD1, hLL]; simp
          have hclr : clr y c < 2 ^ 64 := clr_lt hy
          have HA : Hid (bits BinOp.and IntKind.u64 (y : Int) ((y : Int) - 1) = (clr y c : Int)) := by
            show _ = _
            rw [show (y : Int) - 1 = ((y - 1 : Nat) : Int) by omega, u64_and_nat _ _ hy (by omega), hc5]
          have hms : (L (clr y c) 64).length < (L y 64).length := by rw [hLL]; simp
          have HMS := Lib.hid hms
          have HDL := Lib.hid hD2
          have HO := Lib.hid hD3
          obtain ⟨Z, hZ⟩ : ∃ Z, clr y c = Z := ⟨_, rfl⟩
          rw [hZ] at hlen2 hDD hclr HA HMS
          have HTR := Lib.hid hTr
          have hb2s := hb2.out.size
          clear hlen hD hD1 hD2 hD3 hc1 hc3 hc4 hc5 hLL hms hZ hTr h0
          have hsum : Hid ([Value.int .i64 ((k : Int) * 64 + (c : Int))] = ni [64 * k + c]) := by
            show _ = _
            simp only [ni, nv, List.map_cons, List.map_nil]
            congr 2
            push_cast
            omega
          go_wp2_with fail
          refine (HZ.out _ HTR.out).mono ?_
          rintro e w' ⟨rfl, rfl⟩
          go_wp2_with (first | (rw [HA.out]) | (at_builtin; refine wpList_app rfl (.tmp 24) (.tmp 30) 29 rfl w.heap.size 3 i0 (.int .i64 0) 8 Tryd.underlying29 hi hz0 hz1 hz2 rfl _ s2 (ni D) rfl (own_below HO.out ((Below.refl _ _).alloc (Nat.le_refl _) _)) _ _ 1 1 _ rfl (row_new _ _ _ _) (by rw [hsum.out]; exact ni_one _) (by unfold maxLen; omega) (by omega) (by simp; omega) ?_; intro v2 w2 hown2 hg2 hat2))
          have hal : Below wr.heap.size wr (wr.alloc (.cells #[.int .i64 ((k : Int) * 64 + (c : Int))] 3)) := (Below.refl _ _).alloc (Nat.le_refl _) _
          have HB2 : Hid (Below w.heap.size w w2) := below_app (hb2.out.trans (hal.mono hb2s)) (by simp; omega) (own_below HO.out hal) (Nat.le_refl _) hg2
          have HO2 : Hid (w2.ownsRow w.heap.size 3 1 v2 (s2 + 1) (ni (D ++ [64 * k + c]))) := by
            show World.ownsRow _ _ _ _ _ _ _
            rw [ni_append, ← hsum.out]; exact hown2
          clear hg2 hat2 hown2 hal HO
          go_roundw
          case rel => exact ⟨Z, s2 + 1, rfl, hclr, hs3, hlen2, ⟨_, hDD.out, by rw [List.length_append, HDL.out]; rfl, HO2.out⟩, HB2⟩
          case measure => exact HMS.out
    · obtain rfl : mw n = k := by omega
      have e := Ls_words HV.out.2.1 HV.out.1
      rw [e] at hL hown
      have hLL := hL.out
      subst hLL
      obtain ⟨A2, c2, rfl, _⟩ := own_slice hown.out
      clear e
      go_wp2_with fail
      go_ret
      exact ⟨A2, c2, rfl, hown, hb⟩
end Go.Proofs.YtgeodhffgbhmaaaDoor.Vc
