/- StateLengths' walk. -/
import Derived.Test.YtnbpjajgfpdddaaStAw
namespace Go.Proofs.Ytnbpjajgfpdddaa
open Go.RowKit
/-- the length of what is told of the first k slots -/
def lenN : Nat → LSt → Nat
  | 0, _ => 13
  | 1, L => 13 + if 0 < L.h0.length then 38 else 0
  | _, L => (13 + if 0 < L.h0.length then 38 else 0) + if 0 < L.h1.length then 38 else 0
theorem slot_len {S : LSlot} (h : S.ok) : S.bytes.length = 1 + if 0 < S.h.length then 38 else 0 := by
  rcases h with rfl | h
  · rfl
  · unfold LSlot.bytes
    rw [LSlot.full_not h]
    simp [CrcM.four, h.2.2.2]
theorem bytes_length {L : LSt} (hm : L.may = true) (hw : L.w32) : L.bytes.length = lenN 2 L + if L.on then 44 else 0 := by
  obtain ⟨h1, h2, h3, h4, h5, h6, h7, h8, h9⟩ := (may_ok hm hw).1
  have e0 : L.s0.bytes.length = 1 + if 0 < L.h0.length then 38 else 0 := slot_len h7
  have e1 : L.s1.bytes.length = 1 + if 0 < L.h1.length then 38 else 0 := slot_len h8
  have ez : (if L.on then 1 :: L.m.bytes else [0] : List UInt8).length = 1 + if L.on then 44 else 0 := by
    cases ho : L.on with
    | false => rfl
    | true =>
      have : L.m.ok := by unfold nowOk at h9; rw [ho] at h9; exact h9
      simp [bytes_len, may_32 this.1]
  unfold LSt.bytes
  simp only [List.length_append, ez, e0, e1, CrcM.four, List.length_cons, List.length_nil, lenN]
  omega
set_option maxRecDepth 100000 in
set_option maxHeartbeats 3200000 in
theorem stlen_ex (A0 A1 A : Option Addr) (c0 c1 c : Nat) (L : LSt) (w : World) (hs : IsSt w (fun _ => True) (L.cells A0 c0 A1 c1 A c) L) (hw : L.w32) :
    Calls Try.prog 6 #[.agg (L.cells A0 c0 A1 c1 A c)] w fun e w' => e = .returned (.bool true) ∧ Below w.heap.size w w' := by
  obtain ⟨i0, hi, hz0, hz1, hz2⟩ := info_parts Try.info5
  have HW := Lib.hid hw
  clear hw
  have IN : Hid ((Try.prog.info? 30).map (·.size) = some (L.cells A0 c0 A1 c1 A c).size) := Lib.hid hs.inf
  have e0 := ((Env.start w).addSt hs).alloc (L.cells A0 c0 A1 c1 A c) 30
  have E0 := Lib.hid e0
  clear e0
  go_enter Try.func6, Try.ntmps6
  go_wp2_with ((with_reducible show wpList _ _ _ _ _ _); refine wpList_load_row (o := ⟨some 12, _, _, _, _, _⟩) rfl _ (.tmp 1) rfl w.heap.size rfl _ _ _ _ (E0.out.bx _ _ _ (.head _)) Try.underlying30 rfl IN.out ?_)
  generalize w.alloc (.cells (L.cells A0 c0 A1 c1 A c) 30) = w0 at *
  by_cases hl : L.light
  case neg =>
    refine (heavyS_yes (E0.out.st _ _ (.head _)) hl).mono ?_
    rintro e w1 ⟨rfl, hb1⟩
    have E1 := Lib.hid (E0.out.below hb1)
    clear hb1 E0
    go_wp2_with fail
    refine (awake19_any _).mono ?_
    rintro e wz ⟨rfl, hbz⟩
    have hb := (E1.out.below hbz).b
    go_wp2_with fail
    go_ret
    exact ⟨rfl, hb⟩
  refine (heavyS_no (E0.out.st _ _ (.head _)) hl).mono ?_
  rintro e w1 ⟨rfl, hb1⟩
  have E1 := Lib.hid (E0.out.below hb1)
  clear hb1 E0
  go_wp2_with ((with_reducible show wpList _ _ _ _ _ _); refine wpList_load_rowG (o := ⟨some 16, _, _, _, _, _⟩) (by rfl) _ (.tmp 1) rfl w.heap.size rfl _ _ _ _ (E1.out.bx _ _ _ (.head _)) Try.underlying30 rfl IN.out ?_)
  refine (mayS (E1.out.st _ _ (.head _))).mono ?_
  rintro e w2 ⟨rfl, hb2⟩
  have E2 := Lib.hid (E1.out.below hb2)
  clear hb2 E1 hl
  cases hm : L.may with
  | false =>
    go_wp2_with fail
    refine (awake19_any _).mono ?_
    rintro e wz ⟨rfl, hbz⟩
    have hb := (E2.out.below hbz).b
    go_wp2_with fail
    go_ret
    exact ⟨rfl, hb⟩
  | true =>
  have HM := Lib.hid hm
  clear hm
  have HRG : Hid (World.rangeAt w2 w.heap.size 4 (#[.int .u32 (L.v0 : Int), .int .i64 L.l0, .slice A0 L.h0.length c0, .int .u32 (L.v1 : Int), .int .i64 L.l1, .slice A1 L.h1.length c1] : Array Value).toList) := Lib.hid fun j v hv => by
    rw [E2.out.cell (.head _) (4 + j)]
    match j, hv with
    | 0, hv => exact hv
    | 1, hv => exact hv
    | 2, hv => exact hv
    | 3, hv => exact hv
    | 4, hv => exact hv
    | 5, hv => exact hv
    | j + 6, hv => simp at hv
  go_wp2_with ((with_reducible show wpList _ _ _ _ _ _); refine wpList_load_mid rfl _ (.tmp 21) rfl w.heap.size 4 rfl _ _ HRG.out Try.underlying26 rfl (by kernel_rfl) ?_)
  clear HRG
  go_loopw [23, 3] (fun x s wr => ∃ k n : Nat, k ≤ 2 ∧ x = .int .i64 k ∧ s = .int .i64 (n : Int) ∧ Hid (n = lenN k L) ∧ Hid (Env w wr [(w.heap.size, (L.cells A0 c0 A1 c1 A c), 30)] [((L.cells A0 c0 A1 c1 A c), L)] [])) (fun x _ _ => 2 - (intOf x).toNat)
  case atStart => exact ⟨0, 13, by omega, rfl, rfl, Lib.hid rfl, E2⟩
  case round =>
    clear E2
    obtain ⟨k, n, hk, rfl, rfl, HNL0, EW⟩ := hrel
    have HNL := Lib.hid HNL0.out.symm
    have hn89 : n ≤ 89 := by
      rw [HNL0.out]
      rcases (by omega : k = 0 ∨ k = 1 ∨ k = 2) with rfl | rfl | rfl
      · simp [lenN]
      · simp only [lenN]; split <;> omega
      · simp only [lenN]; split <;> split <;> omega
    have HN13 : Hid (13 ≤ n) := Lib.hid (by
      rw [HNL0.out]
      rcases (by omega : k = 0 ∨ k = 1 ∨ k = 2) with rfl | rfl | rfl <;> simp only [lenN] <;> omega)
    clear HNL0
    rcases (by omega : k = 0 ∨ k = 1 ∨ k = 2) with rfl | rfl | rfl
    · have ix : ∀ W, (Instr.index 26 (.agg #[.int .u32 (L.v0 : Int), .int .i64 L.l0, .slice A0 L.h0.length c0, .int .u32 (L.v1 : Int), .int .i64 L.l1, .slice A1 L.h1.length c1]) (.int .i64 0)).run Try.prog W = .ok (.agg #[.int .u32 (L.v0 : Int), .int .i64 L.l0, .slice A0 L.h0.length c0]) W := fun W => run_index2 W _ 0 0 rfl (by omega)
      obtain ⟨hn, hhn⟩ : ∃ hn, L.h0.length = hn := ⟨_, rfl⟩
      rw [hhn] at ix
      have e : lenN 1 L = n + if 0 < hn then 38 else 0 := by rw [← HNL.out, ← hhn]; rfl
      by_cases hp : 0 < hn
      · have hv : n + 38 = lenN 1 L := by rw [e, if_pos hp]
        have HV := Lib.hid hv
        clear hv e
        have EA := Lib.hid (EW.out.alloc #[.int .u32 (L.v0 : Int), .int .i64 L.l0, .slice A0 hn c0] 25)
        have k2 := cell_of_row _ wr.heap.size 2 _ _ (0, 0) (EA.out.bx _ _ _ (.head _))
        go_wp2_with ((with_reducible show wpList _ _ _ _ _ _); refine wpList_store_new rfl rfl _ (.tmp 5) (.tmp 25) rfl _ _ #[.int .u32 (L.v0 : Int), .int .i64 L.l0, .slice A0 hn c0] _ rfl rfl (by kernel_rfl) (by rfl) (by simp [Value.oneCell']) ?_)
        go_roundw
        case rel => exact ⟨1, _, by omega, by go_num, by go_num, HV, Lib.hid ⟨EA.out.b, fun g cs t hm => EA.out.bx g cs t (.tail _ hm), EA.out.st, EA.out.mn⟩⟩
        case measure => simp [intOf]
      · have hv : n = lenN 1 L := by rw [e, if_neg hp]; rfl
        have hz : hn = 0 := by omega
        have HV := Lib.hid hv
        subst hz
        clear hv e hp
        have EA := Lib.hid (EW.out.alloc #[.int .u32 (L.v0 : Int), .int .i64 L.l0, .slice A0 0 c0] 25)
        have k2 := cell_of_row _ wr.heap.size 2 _ _ (0, 0) (EA.out.bx _ _ _ (.head _))
        go_wp2_with ((with_reducible show wpList _ _ _ _ _ _); refine wpList_store_new rfl rfl _ (.tmp 5) (.tmp 25) rfl _ _ #[.int .u32 (L.v0 : Int), .int .i64 L.l0, .slice A0 0 c0] _ rfl rfl (by kernel_rfl) (by rfl) (by simp [Value.oneCell']) ?_)
        go_roundw
        case rel => exact ⟨1, _, by omega, by go_num, by go_num, HV, Lib.hid ⟨EA.out.b, fun g cs t hm => EA.out.bx g cs t (.tail _ hm), EA.out.st, EA.out.mn⟩⟩
        case measure => simp [intOf]
    · have ix : ∀ W, (Instr.index 26 (.agg #[.int .u32 (L.v0 : Int), .int .i64 L.l0, .slice A0 L.h0.length c0, .int .u32 (L.v1 : Int), .int .i64 L.l1, .slice A1 L.h1.length c1]) (.int .i64 1)).run Try.prog W = .ok (.agg #[.int .u32 (L.v1 : Int), .int .i64 L.l1, .slice A1 L.h1.length c1]) W := fun W => run_index2 W _ 1 1 rfl (by omega)
      obtain ⟨hn, hhn⟩ : ∃ hn, L.h1.length = hn := ⟨_, rfl⟩
      rw [hhn] at ix
      have e : lenN 2 L = n + if 0 < hn then 38 else 0 := by rw [← HNL.out, ← hhn]; rfl
      by_cases hp : 0 < hn
      · have hv : n + 38 = lenN 2 L := by rw [e, if_pos hp]
        have HV := Lib.hid hv
        clear hv e
        have EA := Lib.hid (EW.out.alloc #[.int .u32 (L.v1 : Int), .int .i64 L.l1, .slice A1 hn c1] 25)
        have k2 := cell_of_row _ wr.heap.size 2 _ _ (0, 0) (EA.out.bx _ _ _ (.head _))
        go_wp2_with ((with_reducible show wpList _ _ _ _ _ _); refine wpList_store_new rfl rfl _ (.tmp 5) (.tmp 25) rfl _ _ #[.int .u32 (L.v1 : Int), .int .i64 L.l1, .slice A1 hn c1] _ rfl rfl (by kernel_rfl) (by rfl) (by simp [Value.oneCell']) ?_)
        go_roundw
        case rel => exact ⟨2, _, by omega, by go_num, by go_num, HV, Lib.hid ⟨EA.out.b, fun g cs t hm => EA.out.bx g cs t (.tail _ hm), EA.out.st, EA.out.mn⟩⟩
        case measure => simp [intOf]
      · have hv : n = lenN 2 L := by rw [e, if_neg hp]; rfl
        have hz : hn = 0 := by omega
        have HV := Lib.hid hv
        subst hz
        clear hv e hp
        have EA := Lib.hid (EW.out.alloc #[.int .u32 (L.v1 : Int), .int .i64 L.l1, .slice A1 0 c1] 25)
        have k2 := cell_of_row _ wr.heap.size 2 _ _ (0, 0) (EA.out.bx _ _ _ (.head _))
        go_wp2_with ((with_reducible show wpList _ _ _ _ _ _); refine wpList_store_new rfl rfl _ (.tmp 5) (.tmp 25) rfl _ _ #[.int .u32 (L.v1 : Int), .int .i64 L.l1, .slice A1 0 c1] _ rfl rfl (by kernel_rfl) (by rfl) (by simp [Value.oneCell']) ?_)
        go_roundw
        case rel => exact ⟨2, _, by omega, by go_num, by go_num, HV, Lib.hid ⟨EA.out.b, fun g cs t hm => EA.out.bx g cs t (.tail _ hm), EA.out.st, EA.out.mn⟩⟩
        case measure => simp [intOf]
    · -- behind the slots
      have k10 := EW.out.cell (.head _) 10
      have on10 : (L.cells A0 c0 A1 c1 A c)[10]? = some (.bool L.on) := rfl
      rw [on10] at k10
      have hnb := bytes_length HM.out HW.out
      rw [HNL.out] at hnb
      clear on10 HNL
      cases hon : L.on with
      | false =>
        rw [hon] at k10 hnb
        obtain ⟨N, hN⟩ : ∃ N, n = N := ⟨_, rfl⟩
        subst hN
        obtain ⟨N, rfl⟩ : ∃ N, N = n := ⟨_, rfl⟩
        have hnb2 : L.bytes.length = N := hnb
        have h133 : N ≤ 133 := by omega
        have h13 : 13 ≤ N := HN13.out
        have HNB := Lib.hid hnb2
        clear hon hnb hnb2
        go_wp2_with ((with_reducible show wpList _ _ _ _ _ _); refine wpList_load_row (o := ⟨some 38, _, _, _, _, _⟩) rfl _ (.tmp 1) rfl w.heap.size rfl _ _ _ _ (EW.out.bx _ _ _ (.head _)) Try.underlying30 rfl IN.out ?_)
        refine (bytesS_yes (EW.out.st _ _ (.head _)) HM.out HW.out).mono ?_
        rintro e w5 ⟨A5, n5, c5, rfl, hn5, O5, hb5⟩
        have hnn : n5 = N := by rw [hn5.out, HNB.out]
        subst hnn
        have E5 := Lib.hid ((EW.out.below hb5.out).b)
        have R5 := Lib.hid (Row.of_own O5.out)
        have C5 := Lib.hid (own_cap O5.out)
        obtain ⟨bs, hbs⟩ : ∃ bs, L.bytes = bs := ⟨_, rfl⟩
        have P3 : Hid (parseE (bs ++ [0]) = 3) := Lib.hid (by rw [← hbs]; exact parse_more HM.out HW.out 0)
        have P2 : Hid (∀ h, h < n5 → parseE (bs.take h) = 2) := Lib.hid fun h hh => by rw [← hbs]; exact parse_cut HM.out HW.out (by rw [← hn5.out]; exact hh)
        rw [hbs] at R5 O5
        clear hbs hn5 hb5 k10 EW HNB 
        obtain ⟨hf, hhf⟩ : ∃ hf : Nat, n5 / 2 = hf := ⟨_, rfl⟩
        have HFL : Hid (hf < n5) := Lib.hid (by omega)
        have hf1 : (hf : Int) ≤ (n5 : Int) := by omega
        have hf2 : (hf : Int) ≤ (c5 : Int) := by have := C5.out.1; omega
        have HF : Hid ((n5 : Int) / 2 = (hf : Int)) := Lib.hid (by omega)
        have ba : Below w5.heap.size w5 (w5.alloc (.cells #[] 5)) := (Below.refl _ _).alloc (Nat.le_refl _) _
        have RA := Lib.hid (R5.out.below ba)
        have OA : Hid ((w5.alloc (.cells #[] 5)).ownsRow w5.heap.size 5 1 (.slice (some ⟨w5.heap.size, 0, none⟩) 0 0) 0 (bv [])) := Lib.hid (own_lit #[] rfl (Nat.le_refl _) rfl (by unfold maxLen; omega))
        clear ba O5 hhf
        go_upto_region 14 with (first
          | (at_builtin; go_loud (refine wpList_app rfl (.tmp 43) (.tmp 44) 23 rfl w5.heap.size 5 i0 (.int .u8 0) 1 Try.underlying23 hi hz0 hz1 hz2 rfl _ 0 (bv []) rfl OA.out w5.heap.size A5 n5 c5 (bv bs) rfl RA.out (bv_one _) (by unfold maxLen; omega) (by omega) (by simp) ?_; intro v6 w6 hown6 hg6 hat6; rw [Nat.zero_add] at hown6; obtain ⟨A6, c6, rfl, _⟩ := own_slice hown6; have HW6 := Lib.hid (below_app ((Below.refl _ _).alloc (Nat.le_refl _) _) (by simp) OA.out (Nat.le_refl _) hg6); have O6 := Lib.hid hown6; clear hown6 hg6 hat6 OA RA))
          | (at_builtin; go_loud (refine wpList_app rfl (.tmp 45) (.tmp 46) 23 rfl w5.heap.size 5 i0 (.int .u8 0) 1 Try.underlying23 hi hz0 hz1 hz2 rfl _ n5 (bv [] ++ bv bs) rfl (O6.out.alloc _) _ _ 1 1 _ rfl (row_new w6 _ _ _) (by intro u hu; simp at hu; subst hu; rfl) (by unfold maxLen; omega) (by omega) (by have := HW6.out.size; simp; omega) ?_; intro v7 w7 hown7 hg7 hat7; obtain ⟨A7, c7, rfl, _⟩ := own_slice hown7; have HW7 := Lib.hid (below_app (HW6.out.alloc HW6.out.size _) (by have := HW6.out.size; simp; omega) (O6.out.alloc _) (Nat.le_refl _) hg7); have C7 := Lib.hid (own_cap hown7); have R7 := Lib.hid (Row.of_own hown7); clear hown7 hg7 hat7)))
        have R7B : Hid (Row w7 w7.heap.size A7 (n5 + 1) (bv (bs ++ [0]))) := Lib.hid (by rw [bv_append]; exact R7.out)
        clear R7 O6 HW6
        refine (parse_any A7 (n5 + 1) c7 (bs ++ [0]) w7 R7B.out C7.out.1 C7.out.2).mono ?_
        rintro e w8 ⟨cs8, rfl, s8, hb8⟩
        rw [P3.out]
        have I8 := Lib.hid s8.out.inf
        have O8 := Lib.hid s8.out.one
        have Z8 : Hid (17 = cs8.size) := Lib.hid s8.out.size.symm
        have B9 : Hid (Below w5.heap.size w5 (w8.alloc (.cells cs8 30))) := Lib.hid ((HW7.out.trans (hb8.out.mono HW7.out.size)).alloc (Nat.le_trans HW7.out.size hb8.out.size) _)
        have R9 := Lib.hid (((R5.out.below B9.out).more B9.out.size).head (k := hf) (Nat.le_of_lt HFL.out))
        rw [bv_take] at R9
        clear s8 hb8 HW7 R7B C7 R5
        go_wp2_with (first
          | rw [HF.out]
          | ((with_reducible show wpList _ _ _ _ _ _); refine wpList_store_new rfl rfl _ (.tmp 8) (.tmp 49) rfl _ _ cs8 _ rfl rfl I8.out Z8.out O8.out ?_))
        generalize w8.alloc (.cells cs8 30) = w9 at *
        refine (parse_any A5 hf c5 (bs.take hf) w9 R9.out (by omega) C5.out.2).mono ?_
        rintro e w10 ⟨cs10, rfl, s10, hb10⟩
        rw [P2.out hf HFL.out]
        have I10 := Lib.hid s10.out.inf
        have O10 := Lib.hid s10.out.one
        have Z10 : Hid (17 = cs10.size) := Lib.hid s10.out.size.symm
        have B11 : Hid (Below w.heap.size w (w10.alloc (.cells cs10 30))) := Lib.hid ((E5.out.trans ((B9.out.trans (hb10.out.mono B9.out.size)).mono E5.out.size)).alloc (Nat.le_trans E5.out.size (Nat.le_trans B9.out.size hb10.out.size)) _)
        clear s10 hb10 B9 R9 E5 C5 P2 P3 HFL hf1 hf2 HF
        have qq : ((n5 : Int) == (n5 : Int)) = true := by simp
        go_wp2_with ((with_reducible show wpList _ _ _ _ _ _); refine wpList_store_new rfl rfl _ (.tmp 10) (.tmp 58) rfl _ _ cs10 _ rfl rfl I10.out Z10.out O10.out ?_)
        refine (awake19_any _).mono ?_
        rintro e w12 ⟨rfl, hb12⟩
        have HB12 := Lib.hid (B11.out.trans (hb12.mono B11.out.size))
        clear hb12 B11
        go_wp2_with fail
        go_ret
        exact ⟨rfl, HB12.out⟩
      | true =>
        rw [hon] at k10 hnb
        obtain ⟨N, hN⟩ : ∃ N, n + 44 = N := ⟨_, rfl⟩
        have hnb2 : L.bytes.length = N := by rw [hnb]; exact hN
        have h133 : N ≤ 133 := by omega
        have h13 : 13 ≤ N := by have := HN13.out; omega
        have HADD : Hid ((((N : Int) == (n : Int) + 44)) = true) := Lib.hid (by simp; omega)
        have HNB := Lib.hid hnb2
        clear hon hnb hnb2
        go_wp2_with ((with_reducible show wpList _ _ _ _ _ _); refine wpList_load_row (o := ⟨some 38, _, _, _, _, _⟩) rfl _ (.tmp 1) rfl w.heap.size rfl _ _ _ _ (EW.out.bx _ _ _ (.head _)) Try.underlying30 rfl IN.out ?_)
        refine (bytesS_yes (EW.out.st _ _ (.head _)) HM.out HW.out).mono ?_
        rintro e w5 ⟨A5, n5, c5, rfl, hn5, O5, hb5⟩
        have hnn : n5 = N := by rw [hn5.out, HNB.out]
        subst hnn
        have E5 := Lib.hid ((EW.out.below hb5.out).b)
        have R5 := Lib.hid (Row.of_own O5.out)
        have C5 := Lib.hid (own_cap O5.out)
        obtain ⟨bs, hbs⟩ : ∃ bs, L.bytes = bs := ⟨_, rfl⟩
        have P3 : Hid (parseE (bs ++ [0]) = 3) := Lib.hid (by rw [← hbs]; exact parse_more HM.out HW.out 0)
        have P2 : Hid (∀ h, h < n5 → parseE (bs.take h) = 2) := Lib.hid fun h hh => by rw [← hbs]; exact parse_cut HM.out HW.out (by rw [← hn5.out]; exact hh)
        rw [hbs] at R5 O5
        clear hbs hn5 hb5 k10 EW HNB hN
        obtain ⟨hf, hhf⟩ : ∃ hf : Nat, n5 / 2 = hf := ⟨_, rfl⟩
        have HFL : Hid (hf < n5) := Lib.hid (by omega)
        have hf1 : (hf : Int) ≤ (n5 : Int) := by omega
        have hf2 : (hf : Int) ≤ (c5 : Int) := by have := C5.out.1; omega
        have HF : Hid ((n5 : Int) / 2 = (hf : Int)) := Lib.hid (by omega)
        have ba : Below w5.heap.size w5 (w5.alloc (.cells #[] 5)) := (Below.refl _ _).alloc (Nat.le_refl _) _
        have RA := Lib.hid (R5.out.below ba)
        have OA : Hid ((w5.alloc (.cells #[] 5)).ownsRow w5.heap.size 5 1 (.slice (some ⟨w5.heap.size, 0, none⟩) 0 0) 0 (bv [])) := Lib.hid (own_lit #[] rfl (Nat.le_refl _) rfl (by unfold maxLen; omega))
        clear ba O5 hhf
        go_upto_region 14 with (first
          | (at_builtin; go_loud (refine wpList_app rfl (.tmp 43) (.tmp 44) 23 rfl w5.heap.size 5 i0 (.int .u8 0) 1 Try.underlying23 hi hz0 hz1 hz2 rfl _ 0 (bv []) rfl OA.out w5.heap.size A5 n5 c5 (bv bs) rfl RA.out (bv_one _) (by unfold maxLen; omega) (by omega) (by simp) ?_; intro v6 w6 hown6 hg6 hat6; rw [Nat.zero_add] at hown6; obtain ⟨A6, c6, rfl, _⟩ := own_slice hown6; have HW6 := Lib.hid (below_app ((Below.refl _ _).alloc (Nat.le_refl _) _) (by simp) OA.out (Nat.le_refl _) hg6); have O6 := Lib.hid hown6; clear hown6 hg6 hat6 OA RA))
          | (at_builtin; go_loud (refine wpList_app rfl (.tmp 45) (.tmp 46) 23 rfl w5.heap.size 5 i0 (.int .u8 0) 1 Try.underlying23 hi hz0 hz1 hz2 rfl _ n5 (bv [] ++ bv bs) rfl (O6.out.alloc _) _ _ 1 1 _ rfl (row_new w6 _ _ _) (by intro u hu; simp at hu; subst hu; rfl) (by unfold maxLen; omega) (by omega) (by have := HW6.out.size; simp; omega) ?_; intro v7 w7 hown7 hg7 hat7; obtain ⟨A7, c7, rfl, _⟩ := own_slice hown7; have HW7 := Lib.hid (below_app (HW6.out.alloc HW6.out.size _) (by have := HW6.out.size; simp; omega) (O6.out.alloc _) (Nat.le_refl _) hg7); have C7 := Lib.hid (own_cap hown7); have R7 := Lib.hid (Row.of_own hown7); clear hown7 hg7 hat7)))
        have R7B : Hid (Row w7 w7.heap.size A7 (n5 + 1) (bv (bs ++ [0]))) := Lib.hid (by rw [bv_append]; exact R7.out)
        clear R7 O6 HW6
        refine (parse_any A7 (n5 + 1) c7 (bs ++ [0]) w7 R7B.out C7.out.1 C7.out.2).mono ?_
        rintro e w8 ⟨cs8, rfl, s8, hb8⟩
        rw [P3.out]
        have I8 := Lib.hid s8.out.inf
        have O8 := Lib.hid s8.out.one
        have Z8 : Hid (17 = cs8.size) := Lib.hid s8.out.size.symm
        have B9 : Hid (Below w5.heap.size w5 (w8.alloc (.cells cs8 30))) := Lib.hid ((HW7.out.trans (hb8.out.mono HW7.out.size)).alloc (Nat.le_trans HW7.out.size hb8.out.size) _)
        have R9 := Lib.hid (((R5.out.below B9.out).more B9.out.size).head (k := hf) (Nat.le_of_lt HFL.out))
        rw [bv_take] at R9
        clear s8 hb8 HW7 R7B C7 R5
        go_wp2_with (first
          | rw [HF.out]
          | ((with_reducible show wpList _ _ _ _ _ _); refine wpList_store_new rfl rfl _ (.tmp 8) (.tmp 49) rfl _ _ cs8 _ rfl rfl I8.out Z8.out O8.out ?_))
        generalize w8.alloc (.cells cs8 30) = w9 at *
        refine (parse_any A5 hf c5 (bs.take hf) w9 R9.out (by omega) C5.out.2).mono ?_
        rintro e w10 ⟨cs10, rfl, s10, hb10⟩
        rw [P2.out hf HFL.out]
        have I10 := Lib.hid s10.out.inf
        have O10 := Lib.hid s10.out.one
        have Z10 : Hid (17 = cs10.size) := Lib.hid s10.out.size.symm
        have B11 : Hid (Below w.heap.size w (w10.alloc (.cells cs10 30))) := Lib.hid ((E5.out.trans ((B9.out.trans (hb10.out.mono B9.out.size)).mono E5.out.size)).alloc (Nat.le_trans E5.out.size (Nat.le_trans B9.out.size hb10.out.size)) _)
        clear s10 hb10 B9 R9 E5 C5 P2 P3 HFL hf1 hf2 HF
        have qq := HADD.out
        go_wp2_with ((with_reducible show wpList _ _ _ _ _ _); refine wpList_store_new rfl rfl _ (.tmp 10) (.tmp 58) rfl _ _ cs10 _ rfl rfl I10.out Z10.out O10.out ?_)
        refine (awake19_any _).mono ?_
        rintro e w12 ⟨rfl, hb12⟩
        have HB12 := Lib.hid (B11.out.trans (hb12.mono B11.out.size))
        clear hb12 B11
        go_wp2_with fail
        go_ret
        exact ⟨rfl, HB12.out⟩
theorem stlen_walk {cs : Array Value} {L : LSt} {w : World} (hs : IsSt w (fun _ => True) cs L) (hw : L.w32) :
    Calls Try.prog 6 #[.agg cs] w fun e w' => e = .returned (.bool true) ∧ Below w.heap.size w w' := by
  have h := hs
  obtain ⟨A0, c0, A1, c1, A, c, rfl, _⟩ := h
  exact stlen_ex A0 A1 A c0 c1 c L w hs hw
end Go.Proofs.Ytnbpjajgfpdddaa
