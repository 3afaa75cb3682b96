/- StateTorn's walk. -/
import Derived.Test.YtnbpjajgfpdddaaStLen
namespace Go.Proofs.Ytnbpjajgfpdddaa
open Go.RowKit
theorem flag_bad (y : UInt8) (rest : List UInt8) (hy : 1 < y.toNat) : (Rd.slot ⟨y :: rest, 0⟩).2 = ⟨rest, 3⟩ := by
  have h := num1_codec.fwd y.toNat rest (CrcM.b_lt y)
  have e : (fun v : Nat => [UInt8.ofNat v]) y.toNat ++ rest = y :: rest := by simp
  rw [show ([UInt8.ofNat y.toNat] : List UInt8) = [y] by simp] at h
  have hf : Rd.flag ⟨y :: rest, 0⟩ = (false, ⟨rest, 3⟩) := by
    unfold Rd.flag
    rw [show (⟨y :: rest, 0⟩ : Rd) = ⟨[y] ++ rest, 0⟩ from rfl, h]
    simp only [if_pos hy]
    have : ¬ y.toNat = 1 := by omega
    simp [this, Rd.fail]
  unfold Rd.slot
  rw [hf]
  rfl
theorem parse_flag {L : LSt} (hm : L.may = true) (hw : L.w32) (y : UInt8) (hy : 1 < y.toNat) : 10 < L.bytes.length ∧ parseE (L.bytes.set 10 y) = 3 := by
  obtain ⟨h1, h2, h3, h4, h5, h6, h7, h8, h9⟩ := (may_ok hm hw).1
  have hs : ∃ f r0, L.s0.bytes = f :: r0 := by
    unfold LSlot.bytes
    split <;> exact ⟨_, _, rfl⟩
  obtain ⟨f, r0, hs⟩ := hs
  obtain ⟨rest, hr⟩ : ∃ rest, L.bytes = [UInt8.ofNat L.act.toNat] ++ ([UInt8.ofNat L.trial.toNat] ++ (CrcM.four L.flo ++ (CrcM.four L.gen ++ (f :: rest)))) := ⟨r0 ++ (L.s1.bytes ++ (if L.on then 1 :: L.m.bytes else [0])), by unfold LSt.bytes; rw [hs]; simp⟩
  refine ⟨by rw [hr]; simp [CrcM.four], ?_⟩
  have e : L.bytes.set 10 y = [UInt8.ofNat L.act.toNat] ++ ([UInt8.ofNat L.trial.toNat] ++ (CrcM.four L.flo ++ (CrcM.four L.gen ++ (y :: rest)))) := by rw [hr]; simp [CrcM.four]
  have k : (Rd.state ⟨L.bytes.set 10 y, 0⟩).2.e = 3 := by
    rw [e]
    have k0 : ∀ r : Rd, (Rd.state r).2 = (Rd.parts r).2 := fun r => by simp only [Rd.state]
    rw [k0]
    unfold Rd.parts
    have a1 := num1_codec.fwd L.act.toNat ([UInt8.ofNat L.trial.toNat] ++ (CrcM.four L.flo ++ (CrcM.four L.gen ++ (y :: rest)))) (by show L.act.toNat < 256; omega)
    have a2 := num1_codec.fwd L.trial.toNat (CrcM.four L.flo ++ (CrcM.four L.gen ++ (y :: rest))) (by show L.trial.toNat < 256; omega)
    have a3 := num4_codec.fwd L.flo (CrcM.four L.gen ++ (y :: rest)) h5
    have a4 := num4_codec.fwd L.gen (y :: rest) h6
    have a5 := flag_bad y rest hy
    have a6 := slot_codec.err rest 3 (by decide)
    simp only [Rd.bind, a1, a2, a3, a4, a5]
    rw [rd_eta a6]
    exact now_codec.err _ 3 (by decide)
  unfold parseE
  rw [k]
  simp
theorem bv_set (bs : List UInt8) (k : Nat) (y : UInt8) : bv (bs.set k y) = (bv bs).set k (.int .u8 (y.toNat : Int)) := by
  unfold bv
  rw [List.map_set]
set_option maxRecDepth 100000 in
set_option maxHeartbeats 3200000 in
theorem sttorn_walk (cut : Int) (x : Nat) (hx : x < 256) (cs : Array Value) (L : LSt) (w : World) (hs : IsSt w (fun _ => True) cs L) (hw : L.w32) :
    Calls Try.prog 7 #[.agg cs, .int .i64 cut, .int .u8 (x : Int)] w fun e w' => e = .returned (.bool true) ∧ Below w.heap.size w w' := by
  obtain ⟨i0, hi, hz0, hz1, hz2⟩ := info_parts Try.info5
  have HW := Lib.hid hw
  obtain ⟨z, hz⟩ : ∃ z : Nat, x % 200 = z := ⟨_, rfl⟩
  have HZ : Hid ((x : Int).tmod 200 = (z : Int)) := Lib.hid (by rw [Int.tmod_eq_emod_of_nonneg (by omega)]; omega)
  have HZ2 : Hid ((x : Int) % 200 = (z : Int)) := Lib.hid (by omega)
  have hz199 : (z : Int) ≤ 199 := by omega
  have hx255 : (x : Int) ≤ 255 := by omega
  clear hw hx hz
  have IN : Hid ((Try.prog.info? 30).map (·.size) = some cs.size) := Lib.hid hs.inf
  have e0 := ((Env.start w).addSt hs).alloc cs 30
  have E0 := Lib.hid e0
  clear e0 hs
  go_enter Try.func7, Try.ntmps7
  go_wp2_with ((with_reducible show wpList _ _ _ _ _ _); refine wpList_load_row (o := ⟨some 14, _, _, _, _, _⟩) rfl _ (.tmp 3) rfl w.heap.size rfl _ _ _ _ (E0.out.bx _ _ _ (.head _)) Try.underlying30 rfl IN.out ?_)
  generalize w.alloc (.cells cs 30) = w0 at *
  by_cases hl : L.light
  case neg =>
    refine (heavyS_yes (E0.out.st _ _ (.head _)) hl).mono ?_
    rintro e w1 ⟨rfl, hb1⟩
    have E1 := Lib.hid (E0.out.below hb1)
    clear hb1 E0
    go_wp2_with fail
    refine (awake19_any _).mono ?_
    rintro e wz ⟨rfl, hbz⟩
    have hb := (E1.out.below hbz).b
    go_wp2_with fail
    go_ret
    exact ⟨rfl, hb⟩
  refine (heavyS_no (E0.out.st _ _ (.head _)) hl).mono ?_
  rintro e w1 ⟨rfl, hb1⟩
  have E1 := Lib.hid (E0.out.below hb1)
  clear hb1 E0
  go_wp2_with ((with_reducible show wpList _ _ _ _ _ _); refine wpList_load_rowG (o := ⟨some 18, _, _, _, _, _⟩) (by rfl) _ (.tmp 3) rfl w.heap.size rfl _ _ _ _ (E1.out.bx _ _ _ (.head _)) Try.underlying30 rfl IN.out ?_)
  refine (mayS (E1.out.st _ _ (.head _))).mono ?_
  rintro e w2 ⟨rfl, hb2⟩
  have E2 := Lib.hid (E1.out.below hb2)
  clear hb2 E1 hl
  cases hm : L.may with
  | false =>
    go_wp2_with fail
    refine (awake19_any _).mono ?_
    rintro e wz ⟨rfl, hbz⟩
    have hb := (E2.out.below hbz).b
    go_wp2_with fail
    go_ret
    exact ⟨rfl, hb⟩
  | true =>
  have HM := Lib.hid hm
  clear hm
  go_wp2_with ((with_reducible show wpList _ _ _ _ _ _); refine wpList_load_row (o := ⟨some 24, _, _, _, _, _⟩) rfl _ (.tmp 3) rfl w.heap.size rfl _ _ _ _ (E2.out.bx _ _ _ (.head _)) Try.underlying30 rfl IN.out ?_)
  refine (bytesS_yes (E2.out.st _ _ (.head _)) HM.out HW.out).mono ?_
  rintro e w5 ⟨A5, n5, c5, rfl, hn5, O5, hb5⟩
  have E5 := Lib.hid ((E2.out.below hb5.out).b)
  have R5 := Lib.hid (Row.of_own O5.out)
  have C5 := Lib.hid (own_cap O5.out)
  obtain ⟨Y, hY⟩ : ∃ Y : UInt8, UInt8.ofNat (2 + z) = Y := ⟨_, rfl⟩
  have hYn : Y.toNat = 2 + z := by rw [← hY]; simp; omega
  clear hY
  have hy : 1 < Y.toNat := by omega
  have pf := parse_flag HM.out HW.out _ hy
  have h13 : 13 ≤ n5 := by
    rw [hn5.out, bytes_length HM.out HW.out]
    simp only [lenN]
    omega
  have h133 : n5 ≤ 133 := by
    rw [hn5.out, bytes_length HM.out HW.out]
    simp only [lenN]
    split <;> split <;> split <;> omega
  obtain ⟨bs, hbs⟩ : ∃ bs, L.bytes = bs := ⟨_, rfl⟩
  have P3 : Hid (parseE (bs.set 10 Y) = 3) := Lib.hid (by rw [← hbs]; exact pf.2)
  have P2 : Hid (∀ h, h < n5 → parseE (bs.take h) = 2) := Lib.hid fun h hh => by rw [← hbs]; exact parse_cut HM.out HW.out (by rw [← hn5.out]; exact hh)
  rw [hbs] at R5 O5
  have q13 : decide ((n5 : Int) < 13) = false := by simp; omega
  have q13n : decide (n5 < 13) = false := by simp; omega
  have HBL : Hid (bs.length = n5) := Lib.hid (by rw [← hbs]; exact hn5.out.symm)
  obtain ⟨k, hk, hkq⟩ := pick_in cut (n5 : Int) (by omega) (by omega)
  have HK := Lib.hid hkq
  have HKL : Hid (k < n5) := Lib.hid (by omega)
  have hkc : (k : Int) ≤ (c5 : Int) := by have := C5.out.1; omega
  have R6 := Lib.hid (R5.out.head (k := k) (by omega))
  rw [bv_take] at R6
  clear hbs hn5 hb5 E2 pf hy hkq HM HW
  go_wp2_with (rw [HK.out])
  refine (parse_any A5 k c5 (bs.take k) w5 R6.out (by omega) C5.out.2).mono ?_
  rintro e w6 ⟨cs6, rfl, s6, hb6⟩
  rw [P2.out k HKL.out]
  have I6 := Lib.hid s6.out.inf
  have O6 := Lib.hid s6.out.one
  have Z6 : Hid (17 = cs6.size) := Lib.hid s6.out.size.symm
  have B7 : Hid (Below w5.heap.size w5 (w6.alloc (.cells cs6 30))) := Lib.hid (hb6.out.alloc hb6.out.size _)
  have R7 := Lib.hid ((R5.out.below B7.out).more B7.out.size)
  clear s6 hb6 R6 R5 O5 P2 HKL hkc hk HK
  go_upto_region 7 with ((with_reducible show wpList _ _ _ _ _ _); refine wpList_store_new rfl rfl _ (.tmp 9) (.tmp 46) rfl _ _ cs6 _ rfl rfl I6.out Z6.out O6.out ?_)
  generalize w6.alloc (.cells cs6 30) = w7 at *
  have ba : Below w7.heap.size w7 (w7.alloc (.cells #[] 5)) := (Below.refl _ _).alloc (Nat.le_refl _) _
  have RA := Lib.hid (R7.out.below ba)
  have OA : Hid ((w7.alloc (.cells #[] 5)).ownsRow w7.heap.size 5 1 (.slice (some ⟨w7.heap.size, 0, none⟩) 0 0) 0 (bv [])) := Lib.hid (own_lit #[] rfl (Nat.le_refl _) rfl (by unfold maxLen; omega))
  clear ba R7
  go_upto_region 8 with (at_builtin; go_loud (refine wpList_app rfl (.tmp 48) (.tmp 49) 23 rfl w7.heap.size 5 i0 (.int .u8 0) 1 Try.underlying23 hi hz0 hz1 hz2 rfl _ 0 (bv []) rfl OA.out w7.heap.size A5 n5 c5 (bv bs) rfl RA.out (bv_one _) (by unfold maxLen; omega) (by omega) (by simp) ?_; intro v8 w8 hown8 hg8 hat8; rw [Nat.zero_add] at hown8; obtain ⟨A8, c8, rfl, _⟩ := own_slice hown8; have HW8 := Lib.hid (below_app ((Below.refl _ _).alloc (Nat.le_refl _) _) (by simp) OA.out (Nat.le_refl _) hg8); have O8 := Lib.hid hown8; clear hown8 hg8 hat8 OA RA))
  have o8 : w8.ownsRow w7.heap.size 5 1 (.slice A8 n5 c8) n5 (bv bs) := O8.out
  have C8 := Lib.hid (own_cap o8)
  rcases o8.2 with h0 | ⟨g8, cap, cur, hv, hbg, hg8, hnc, _, hcs, hcur⟩
  · exact absurd h0.2 (by omega)
  injection hv with e1 e2 e3
  subst e1 e3
  have hcs2 : cur.size = c8 := by rw [hcs, Nat.mul_one]
  have h10 : 10 < cur.size := by omega
  have k10 : w8.cell? ⟨g8, 10, none⟩ = some cur[10] := by rw [cell_of_row w8 g8 10 _ _ (0, 0) hg8, Array.getElem?_eq_getElem h10]
  have f10 := frozen_of_row w8 g8 10 _ _ hg8
  have X9 := heap_setCell_same w8 g8 10 _ _ (.int .u8 (Y.toNat : Int)) hg8
  have R9 : Hid (Row (w8.setCell ⟨g8, 10, none⟩ (.int .u8 (Y.toNat : Int))) (w8.setCell ⟨g8, 10, none⟩ (.int .u8 (Y.toNat : Int))).heap.size (some ⟨g8, 0, none⟩) n5 (bv (bs.set 10 Y))) := Lib.hid (by
    refine ⟨by rw [bv_length, List.length_set, HBL.out], fun _ => ⟨g8, 0, rfl, by simpa using (Array.getElem?_eq_some_iff.1 hg8).1, fun j u hu => ?_⟩⟩
    rw [Nat.zero_add, cell_of_row _ g8 j _ _ (0, 0) X9, Array.getElem?_setIfInBounds]
    rw [bv_set, List.getElem?_set] at hu
    by_cases h : 10 = j
    · subst h
      rw [if_pos rfl] at hu ⊢
      rw [if_pos h10]
      rw [if_pos (by rw [bv_length, HBL.out]; omega)] at hu
      exact hu
    · rw [if_neg h] at hu ⊢
      have hj : j < n5 := by
        have := (List.getElem?_eq_some_iff.1 hu).1
        rw [bv_length, HBL.out] at this; exact this
      have : (cur.toList.take (n5 * 1))[j]? = some u := by rw [hcur]; exact hu
      rw [List.getElem?_take_of_lt (by omega)] at this
      rw [← this, Array.getElem?_toList])
  have HB9 : Hid (Below w.heap.size w (w8.setCell ⟨g8, 10, none⟩ (.int .u8 (Y.toNat : Int)))) := Lib.hid (by
    have h1 := E5.out.trans ((B7.out.trans (HW8.out.mono B7.out.size)).mono E5.out.size)
    exact h1.setCell (by have := E5.out.size; have := B7.out.size; show w.heap.size ≤ g8; omega) _)
  have q10 : (10 : Int) < (n5 : Int) := by omega
  have e2z : ((2 : Int) + (z : Int)) = (Y.toNat : Int) := by omega
  have E2Z := Lib.hid e2z
  clear hYn o8 hg8 hcs hcur hcs2 X9 B7 HW8 E5 O8 hbg hnc e2z
  go_upto_region 9 with (first | rw [HZ.out] | rw [HZ2.out])
  rw [E2Z.out]
  generalize (w8.setCell ⟨g8, 10, none⟩ (.int .u8 (Y.toNat : Int))) = w9 at *
  clear k10 f10 h10
  go_wp2_with fail
  refine (parse_any (some ⟨g8, 0, none⟩) n5 _ (bs.set 10 Y) w9 R9.out C8.out.1 C8.out.2).mono ?_
  rintro e w10 ⟨cs10, rfl, s10, hb10⟩
  rw [P3.out]
  have I10 := Lib.hid s10.out.inf
  have O10 := Lib.hid s10.out.one
  have Z10 : Hid (17 = cs10.size) := Lib.hid s10.out.size.symm
  have B11 : Hid (Below w.heap.size w (w10.alloc (.cells cs10 30))) := Lib.hid ((HB9.out.trans (hb10.out.mono HB9.out.size)).alloc (Nat.le_trans HB9.out.size hb10.out.size) _)
  clear s10 hb10 R9 HB9
  go_wp2_with ((with_reducible show wpList _ _ _ _ _ _); refine wpList_store_new rfl rfl _ (.tmp 12) (.tmp 59) rfl _ _ cs10 _ rfl rfl I10.out Z10.out O10.out ?_)
  refine (awake19_any _).mono ?_
  rintro e w12 ⟨rfl, hb12⟩
  have HB12 := Lib.hid (B11.out.trans (hb12.mono B11.out.size))
  clear hb12 B11
  go_wp2_with fail
  go_ret
  exact ⟨rfl, HB12.out⟩
end Go.Proofs.Ytnbpjajgfpdddaa
