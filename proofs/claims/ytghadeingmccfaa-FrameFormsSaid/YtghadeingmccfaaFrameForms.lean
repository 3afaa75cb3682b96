/- FrameForms: any kind, any bytes; a frame that is changed, or cut; any bytes as one: all as the page has it. For every input, no condition. -/
import Derived.Test.YtghadeingmccfaaFrameUn
import Derived.Test.YtghadeingmccfaaLawRows
namespace Go.Proofs.Ytghadeingmccfaa
open Go.ChangeShapes Go.WideShapes Go.ChangeAt Go.RowKit
open FrM (flen inner frame)
open CrcM (bend bend_length)
theorem wrapL_le (kind : Int) (l : List UInt8) : (wrapL kind l).length ≤ 300 := by
  unfold wrapL
  by_cases h : wrapNo kind l
  · rw [if_pos h]; simp
  · rw [if_neg h, FrM.frame_length]; unfold wrapNo at h; omega
set_option maxHeartbeats 1600000 in
theorem ff_walk (kind : Int) (A : Option Addr) (n cap : Nat) (l : List UInt8) (Ar : Option Addr) (nr capr : Nat) (lr : List UInt8) (at_ : Int) (x : UInt8) (cut : Int) (w : World)
    (hl : Row w w.heap.size A n (bv l)) (hlr : Row w w.heap.size Ar nr (bv lr)) (hnr : nr ≤ capr) (hcapr : capr ≤ 9223372036854775807) :
    Calls Try.prog 3 #[.int .i64 kind, .slice A n cap, .slice Ar nr capr, .int .i64 at_, .int .u8 (x.toNat : Int), .int .i64 cut] w fun e w' => e = .returned (.bool true) ∧ Below w.heap.size w w' := by
  obtain ⟨i0, hi, hz0, hz1, hz2⟩ := info_parts Try.info5
  by_cases hbig : 400 < n
  · go_enter Try.func3, Try.ntmps3
    go_wp2_with fail
    refine (awake13_any _).mono ?_
    rintro e w' ⟨rfl, hb⟩
    go_wp2
    go_ret
    exact ⟨rfl, hb⟩
  by_cases hbig2 : 400 < nr
  · go_enter Try.func3, Try.ntmps3
    go_wp2_with fail
    refine (awake13_any _).mono ?_
    rintro e w' ⟨rfl, hb⟩
    go_wp2
    go_ret
    exact ⟨rfl, hb⟩
  have HLE := Lib.hid (wrapL_le kind l)
  go_enter Try.func3, Try.ntmps3
  go_wp2_with fail
  refine (wrap_any kind w.heap.size n cap A l w hl (Nat.le_refl _)).mono ?_
  rintro e w1 ⟨A1, n1, c1, rfl, hn1, hr1, hc1, hb1⟩
  go_wp2_with fail
  refine (r7wrap_any kind w.heap.size n cap A l w1 (hl.below hb1.out) hb1.out.size).mono ?_
  rintro e w2 ⟨Aq, nq, cq, rfl, hnq, hrq, hcq, hb2⟩
  obtain ⟨L, hL⟩ : ∃ L, wrapL kind l = L := ⟨_, rfl⟩
  rw [hL] at hn1 hr1 hnq hrq HLE
  generalize wrapE kind l = er at *
  obtain rfl : n1 = nq := hn1.out.trans hnq.out.symm
  have hnL : n1 ≤ 300 := by have := hnq.out; have := HLE.out; omega
  have HB2 : Hid (Below w.heap.size w w2) := hb1.out.trans (hb2.out.mono hb1.out.size)
  have hk1 := run_string_row (P := Try.prog) (hr1.out.below hb2.out) c1 22 9 5 Try.underlying22 Try.underlying5 Try.underlying9
  have hk2 := run_string_row (P := Try.prog) hrq.out cq 22 9 5 Try.underlying22 Try.underlying5 Try.underlying9
  clear hL hn1 hr1 hb1 hb2
  go_upto_region 7 with fail
  clear hk1 hk2
  by_cases hq0 : n1 = 0
  · subst hq0
    obtain rfl : L = [] := List.eq_nil_of_length_eq_zero (by have := hnq.out; omega)
    go_wp2_with (at_builtin; refine wpList_app rfl (.tmp 58) (.tmp 59) 22 rfl w2.heap.size 5 i0 (.int .u8 0) 1 Try.underlying22 hi hz0 hz1 hz2 rfl _ 0 [] rfl (own_lit #[] rfl (Nat.le_refl _) rfl (by unfold maxLen; omega)) _ Aq 0 cq _ rfl (hrq.out.alloc (Nat.le_refl _) _) (bv_one _) (by unfold maxLen; omega) (by omega) (by simp) ?_; intro v4 w4 hown4 hg4 hat4; obtain ⟨A4, c4, rfl, _⟩ := own_slice hown4)
    have hb4 : Below w2.heap.size w2 w4 := below_new hg4
    have hs4 := hb4.size
    have HRB : Hid (Row w4 w4.heap.size A4 0 (bv [])) := Row.nil _ _ _
    have HBB : Hid (Below w.heap.size w w4) := HB2.out.trans (hb4.mono HB2.out.size)
    have HRQ : Hid (Row w4 w4.heap.size Aq 0 (bv [])) := Row.nil _ _ _
    have HCB : Hid (c4 ≤ 9223372036854775807) := by have := own_cap hown4; exact this.2
    clear hown4 hg4 hat4 hb4 hrq
    generalize w4 = WB at *
    obtain ⟨AB, hAB⟩ : ∃ AB : Option Addr, AB = A4 := ⟨_, rfl⟩
    rw [← hAB] at HRB ⊢
    clear hAB
    generalize c4 = cB at *
    have HN := Lib.hid hnr
    have HCR := Lib.hid hcapr
    have HIDX : Hid (∀ k : Nat, k < 3 → ∃ Ay ny cy ly, Row WB WB.heap.size Ay ny (bv ly) ∧ ny ≤ cy ∧ cy ≤ 9223372036854775807 ∧
        ∀ w', (Instr.index 28 (.agg #[.slice AB 0 cB, .slice Ar nr capr, .slice Aq 0 cq]) (.int .i64 (k : Int))).run Try.prog w' = .ok (.slice Ay ny cy) w') := by
      intro k hk
      match k, hk with
      | 0, _ => exact ⟨AB, 0, cB, _, HRB.out, by omega, HCB.out, fun w' => by kernel_rfl⟩
      | 1, _ => exact ⟨Ar, nr, capr, lr, (hlr.below HBB.out).more HBB.out.size, HN.out, HCR.out, fun w' => by kernel_rfl⟩
      | 2, _ => exact ⟨Aq, 0, cq, [], HRQ.out, hcq.out.1, hcq.out.2, fun w' => by kernel_rfl⟩
    go_loopw [91] (fun i wr => ∃ k : Nat, k ≤ 3 ∧ i = .int .i64 k ∧ Hid (Below WB.heap.size WB wr)) (fun i _ => 3 - (intOf i).toNat)
    case atStart => exact ⟨0, by omega, rfl, Below.refl _ _⟩
    case round =>
      obtain ⟨k, hk, rfl, hbx⟩ := hrel
      by_cases hlt : k < 3
      · obtain ⟨Ay, ny, cy, ly, hrowy, hny, hcy, hidx⟩ := HIDX.out k hlt
        obtain ⟨kk, m, gg, hu⟩ := un_is ly
        have HU := Lib.hid hu
        have HRY := Lib.hid (hrowy.below hbx.out)
        have HNY := Lib.hid hny
        have HCY := Lib.hid hcy
        have hbs := hbx.out.size
        clear hu hrowy hny hcy
        go_wp2_with fail
        refine (unwrap_any WB.heap.size ny cy Ay ly kk m gg wr HRY.out HNY.out HCY.out hbs HU.out).mono ?_
        rintro e wy ⟨A6, n6, c6, rfl, hr6, hb6⟩
        have HRY2 := Lib.hid (HRY.out.below (hb6.out.mono hbs))
        go_wp2_with fail
        refine (r7unwrap_any WB.heap.size ny cy Ay ly kk m gg wy HRY2.out HNY.out HCY.out (Nat.le_trans hbs hb6.out.size) HU.out).mono ?_
        rintro e wz ⟨A7, n7, c7, rfl, hr7, hb7⟩
        have HBZ : Hid (Below WB.heap.size WB wz) := (hbx.out.trans (hb6.out.mono hbs)).trans (hb7.out.mono (Nat.le_trans hbs hb6.out.size))
        have hk1 := run_string_row (P := Try.prog) (hr6.out.below hb7.out) c6 22 9 5 Try.underlying22 Try.underlying5 Try.underlying9
        have hk2 := run_string_row (P := Try.prog) hr7.out c7 22 9 5 Try.underlying22 Try.underlying5 Try.underlying9
        clear HRY HRY2 hr6 hb6 hr7 hb7 hbx hidx
        go_wp2_with fail
        go_roundw
        case rel => exact ⟨k + 1, by omega, by go_num, HBZ.out⟩
        case measure => simp [intOf]; omega
      · have HBW := Lib.hid (HBB.out.trans (hbx.out.mono HBB.out.size))
        clear hbx
        go_wp2_with fail
        refine (awake13_any _).mono ?_
        rintro e w9 ⟨rfl, hb9⟩
        go_wp2_with fail
        go_ret
        exact ⟨rfl, HBW.out.trans (hb9.mono HBW.out.size)⟩
  obtain ⟨iq, hiq, hKq⟩ := pick_in at_ (n1 : Int) (by omega) (by omega)
  obtain ⟨jq, hjq, hKj⟩ := pick_in cut (n1 : Int) (by omega) (by omega)
  have HKQ := Lib.hid hKq
  have HKJ := Lib.hid hKj
  clear hKq hKj
  go_wp2_with (at_builtin; refine wpList_app rfl (.tmp 58) (.tmp 59) 22 rfl w2.heap.size 5 i0 (.int .u8 0) 1 Try.underlying22 hi hz0 hz1 hz2 rfl _ 0 [] rfl (own_lit #[] rfl (Nat.le_refl _) rfl (by unfold maxLen; omega)) _ Aq n1 cq _ rfl (hrq.out.alloc (Nat.le_refl _) _) (bv_one _) (by unfold maxLen; omega) (by omega) (by simp) ?_; intro v4 w4 hown4 hg4 hat4; obtain ⟨A4, c4, rfl, _⟩ := own_slice hown4)
  have hb4 : Below w2.heap.size w2 w4 := below_new hg4
  have hs4 := hb4.size
  rw [List.nil_append] at hown4
  obtain ⟨g, c4', hv, hg0, hglt⟩ := hown4.form (by omega)
  injection hv with e1 e2 e3
  subst e1 e3
  have hc4 := own_cap hown4
  have hcell : w4.cell? ⟨g, iq, none⟩ = _ := (hown4.cellAt iq (by omega)).trans (bv_getD L iq (by have := hnq.out; omega))
  have hown5 := (hown4.stored iq (.int .u8 (bits .xor .u8 ((L.getD iq 0).toNat : Int) (x.toNat : Int)))).1
  rw [bv_bend] at hown5
  have hfr := hown4.frozenAt iq
  generalize L.getD iq 0 = u at *
  have hiq0 : (0 : Int) ≤ iq := by omega
  rw [HKQ.out]
  have hjj : ((n1 : Int) - jq) ≤ 300 := by omega
  have hjj0 : 0 ≤ ((n1 : Int) - jq) := by omega
  go_wp2_with (rw [HKJ.out])
  have hrb := (Row.of_own hown5).head (k := n1 - jq) (by omega)
  rw [bv_take] at hrb
  have HRB := Lib.hid hrb
  clear hrb
  have HCB : Hid (c4 ≤ 9223372036854775807) := hc4.2
  have hbB := (HB2.out.trans (hb4.mono HB2.out.size)).setCell (p := ⟨g, iq, none⟩) (Nat.le_trans HB2.out.size hg0) (.int .u8 (bits .xor .u8 (u.toNat : Int) (x.toNat : Int)))
  have HBB := Lib.hid hbB
  have hrq9 : Row _ _ Aq n1 (bv L) := ((hrq.out.below hb4).setCell (p := ⟨g, iq, none⟩) hg0 (.int .u8 (bits .xor .u8 (u.toNat : Int) (x.toNat : Int)))).more (B' := (w4.setCell ⟨g, iq, none⟩ (.int .u8 (bits .xor .u8 (u.toNat : Int) (x.toNat : Int)))).heap.size) (by simp; omega)
  have HRQ := Lib.hid hrq9
  have hcB : n1 ≤ c4 := by omega
  clear hrq9 hbB hown5 hfr hcell hown4 hc4 hg4 hat4 hb4 hrq
  generalize w4.setCell ⟨g, iq, none⟩ (.int .u8 (bits .xor .u8 (u.toNat : Int) (x.toNat : Int))) = WB at *
  obtain ⟨AB, hAB⟩ : ∃ AB : Option Addr, AB = some ⟨g, 0, none⟩ := ⟨_, rfl⟩
  rw [← hAB] at HRB ⊢
  clear hAB
  generalize c4 = cB at *
  have HN := Lib.hid hnr
  have HCR := Lib.hid hcapr
  generalize hm5 : n1 - jq = m5 at *
  have hm5c : m5 ≤ cB := by omega
  have HIDX : Hid (∀ k : Nat, k < 3 → ∃ Ay ny cy ly, Row WB WB.heap.size Ay ny (bv ly) ∧ ny ≤ cy ∧ cy ≤ 9223372036854775807 ∧
      ∀ w', (Instr.index 28 (.agg #[.slice AB m5 cB, .slice Ar nr capr, .slice Aq n1 cq]) (.int .i64 (k : Int))).run Try.prog w' = .ok (.slice Ay ny cy) w') := by
    intro k hk
    match k, hk with
    | 0, _ => exact ⟨AB, m5, cB, _, HRB.out, by omega, HCB.out, fun w' => by kernel_rfl⟩
    | 1, _ => exact ⟨Ar, nr, capr, lr, (hlr.below HBB.out).more HBB.out.size, HN.out, HCR.out, fun w' => by kernel_rfl⟩
    | 2, _ => exact ⟨Aq, n1, cq, L, HRQ.out, hcq.out.1, hcq.out.2, fun w' => by kernel_rfl⟩
  clear hm5 hm5c
  go_loopw [91] (fun i wr => ∃ k : Nat, k ≤ 3 ∧ i = .int .i64 k ∧ Hid (Below WB.heap.size WB wr)) (fun i _ => 3 - (intOf i).toNat)
  case atStart => exact ⟨0, by omega, rfl, Below.refl _ _⟩
  case round =>
    obtain ⟨k, hk, rfl, hbx⟩ := hrel
    by_cases hlt : k < 3
    · obtain ⟨Ay, ny, cy, ly, hrowy, hny, hcy, hidx⟩ := HIDX.out k hlt
      obtain ⟨kk, m, gg, hu⟩ := un_is ly
      have HU := Lib.hid hu
      have HRY := Lib.hid (hrowy.below hbx.out)
      have HNY := Lib.hid hny
      have HCY := Lib.hid hcy
      have hbs := hbx.out.size
      clear hu hrowy hny hcy
      go_wp2_with fail
      refine (unwrap_any WB.heap.size ny cy Ay ly kk m gg wr HRY.out HNY.out HCY.out hbs HU.out).mono ?_
      rintro e wy ⟨A6, n6, c6, rfl, hr6, hb6⟩
      have HRY2 := Lib.hid (HRY.out.below (hb6.out.mono hbs))
      go_wp2_with fail
      refine (r7unwrap_any WB.heap.size ny cy Ay ly kk m gg wy HRY2.out HNY.out HCY.out (Nat.le_trans hbs hb6.out.size) HU.out).mono ?_
      rintro e wz ⟨A7, n7, c7, rfl, hr7, hb7⟩
      have HBZ : Hid (Below WB.heap.size WB wz) := (hbx.out.trans (hb6.out.mono hbs)).trans (hb7.out.mono (Nat.le_trans hbs hb6.out.size))
      have hk1 := run_string_row (P := Try.prog) (hr6.out.below hb7.out) c6 22 9 5 Try.underlying22 Try.underlying5 Try.underlying9
      have hk2 := run_string_row (P := Try.prog) hr7.out c7 22 9 5 Try.underlying22 Try.underlying5 Try.underlying9
      clear HRY HRY2 hr6 hb6 hr7 hb7 hbx hidx
      go_wp2_with fail
      go_roundw
      case rel => exact ⟨k + 1, by omega, by go_num, HBZ.out⟩
      case measure => simp [intOf]; omega
    · have HBW := Lib.hid (HBB.out.trans (hbx.out.mono HBB.out.size))
      clear hbx
      go_wp2_with fail
      refine (awake13_any _).mono ?_
      rintro e w9 ⟨rfl, hb9⟩
      go_wp2_with fail
      go_ret
      exact ⟨rfl, HBW.out.trans (hb9.mono HBW.out.size)⟩

set_option maxRecDepth 100000 in
theorem frameForms_lifted (os : Os) (started : os.Started) (H : Type) (enc : TypeId × Value → H) :
    ReturnsInHanded {} Try.checked os 3 .any (Rows.frameFormsSpec.pre6 enc Try.prog Try.f3 Rows.frameFormsRow.domain false) (Rows.frameFormsSpec.post enc Try.prog Try.f3 false true false false) := by
  refine law_lift (C := Try.checked) (tb := 4) Try.own started (by kernel_rfl) Try.func3
    (ChangeSpec.witness6 (enc := enc) (C := Try.checked) false ⟨#[], #[.int .i64 0, .slice none 0 0, .slice none 0 0, .int .i64 0, .int .u8 0, .int .i64 0], []⟩ 8 (by kernel_rfl) (by kernel_rfl) (by kernel_rfl) (by kernel_rfl)) Try.laidOut (by kernel_rfl) rfl rfl Try.underlying4 ?_ ?_
  · intro ds hds
    match ds, hds with
    | [_, _, _, _, _, _], _ => rfl
  intro W base args ds p hval0 hA0 _ _ hsz0
  have hval : ∀ (j : Nat) t v, Try.f3.params[j]? = some t → args[j]? = some v → Value.okWide Try.prog W .any base t v := hval0
  have hA : DataW.TrodAll enc Try.prog W 0 (fun _ => true) true Try.f3.params.toList args.toList ds p := hA0
  rw [Try.params3] at hA hval
  obtain ⟨v0, vs0, d0, ds0, p0, q0, hargs0, hds0, hps0, h0, r0⟩ := trodAll_cons hA
  obtain ⟨v1, vs1, d1, ds1, p1, q1, hargs1, hds1, hps1, h1, r1⟩ := trodAll_cons r0
  obtain ⟨v2, vs2, d2, ds2, p2, q2, hargs2, hds2, hps2, h2, r2⟩ := trodAll_cons r1
  obtain ⟨v3, vs3, d3, ds3, p3, q3, hargs3, hds3, hps3, h3, r3⟩ := trodAll_cons r2
  obtain ⟨v4, vs4, d4, ds4, p4, q4, hargs4, hds4, hps4, h4, r4⟩ := trodAll_cons r3
  obtain ⟨v5, vs5, d5, ds5, p5, q5, hargs5, hds5, hps5, h5, r5⟩ := trodAll_cons r4
  obtain ⟨e1, _, _⟩ := trodAll_nil r5
  obtain rfl : args = #[v0, v1, v2, v3, v4, v5] := by cases args; simp_all
  obtain ⟨x0, rfl, hx0, hy0⟩ := open_i64 Try.underlying3 (hval 0 3 v0 rfl rfl) h0
  obtain ⟨A1, n1, cap1, l1, rfl, hrow1, hnc1, hcm1⟩ := open_bytes Try.underlying22 Try.underlying5 Try.cells5 (hval 1 22 v1 rfl rfl) h1
  obtain ⟨A2, n2, cap2, l2, rfl, hrow2, hnc2, hcm2⟩ := open_bytes Try.underlying22 Try.underlying5 Try.cells5 (hval 2 22 v2 rfl rfl) h2
  obtain ⟨x3, rfl, hx3, hy3⟩ := open_i64 Try.underlying3 (hval 3 3 v3 rfl rfl) h3
  obtain ⟨x4, rfl⟩ := open_byte Try.underlying5 (hval 4 5 v4 rfl rfl) h4
  obtain ⟨x5, rfl, hx5, hy5⟩ := open_i64 Try.underlying3 (hval 5 3 v5 rfl rfl) h5
  exact ff_walk x0 A1 n1 cap1 l1 A2 n2 cap2 l2 x3 x4 x5 W hrow1 hrow2 hnc2 hcm2

theorem frameForms_holds : Rows.FrameFormsSaid :=
  OpenClaim.holds_of_wide 3 Try.f3 rfl rfl rfl rfl rfl rfl rfl ⟨rfl, rfl, rfl, rfl, rfl⟩ rfl rfl rfl rfl rfl (by kernel_rfl) Try.func3 (by kernel_rfl)
    (of_decide_eq_true (by kernel_rfl)) (by unfold Func.isWrapper; rw [if_neg (of_decide_eq_false (by kernel_rfl))]; exact ⟨rfl, rfl⟩)
    (fun os started H enc _ => frameForms_lifted os started H enc)
end Go.Proofs.Ytghadeingmccfaa
