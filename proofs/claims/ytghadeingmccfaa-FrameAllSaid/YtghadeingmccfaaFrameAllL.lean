/- FrameAll: whatever the bytes, frames among them: all that is found is as the page has it. For every input, no condition. -/
import Derived.Test.YtghadeingmccfaaR7Wrap
import Derived.Test.YtghadeingmccfaaLawNums
import Derived.Test.YtghadeingmccfaaLawRows
namespace Go.Proofs.Ytghadeingmccfaa
open Go.ChangeShapes Go.WideShapes Go.ChangeAt Go.RowKit
theorem and_one : ∀ k : Nat, k < 31 → bits .and .i64 (k : Int) 1 = ((k % 2 : Nat) : Int) := by decide +kernel
def WrapRes (w : World) (e : Ending) (w' : World) : Prop :=
  ∃ A n c L, ∃ r : Int, e = .returned (.tuple #[.slice A n c, .int .i64 r]) ∧ Hid (Row w' w'.heap.size A n (bv L)) ∧ n ≤ 300 ∧ Hid (Below w.heap.size w w')
theorem r7wrap_res (k B n cap : Nat) (A : Option Addr) (l : List UInt8) (w : World) (hk : k < 31) (hl : Row w B A n (bv l)) (hn : n ≤ 300) (hB : B ≤ w.heap.size) :
    Calls Try.prog 8 #[.int .i64 (bits .and .i64 (k : Int) 1), .slice A n cap] w (WrapRes w) := by
  rw [and_one k hk]
  have hq : (((UInt8.ofNat (k % 2)).toNat : Nat) : Int) = ((k % 2 : Nat) : Int) := by rw [UInt8.toNat_ofNat']; omega
  rw [← hq]
  by_cases h : n ≤ 291
  · refine (r7wrap_ok _ B n cap A l w hl h hB).mono ?_
    rintro e w' ⟨A', n', c', rfl, hn', hown, hb⟩
    refine ⟨A', n', c', _, 0, rfl, Row.of_own hown, ?_, hb⟩
    rw [hn'.out, FrM.frame_length, hl.blen]; omega
  · refine (r7wrap_long _ n cap A w (by omega) (by have := CrcM.b_lt (UInt8.ofNat (k % 2)); omega) (by omega)).mono ?_
    rintro e w' ⟨rfl, rfl⟩
    exact ⟨none, 0, 0, [], 1, rfl, Row.nil _ _ _, by omega, Below.refl _ _⟩
theorem LW.rows {base n c : Nat} {W : World} {A : Option Addr} {es : List BRow} (h : LW base W (.slice A n c) n es) : Rows2 W W.heap.size A n es :=
  ⟨Row.of_own h.1, fun r hr => by obtain ⟨g, _, _, _, _, h5, _⟩ := h.2 r hr; exact h5⟩
set_option maxHeartbeats 1600000 in
theorem fall_walk (A : Option Addr) (n cap : Nat) (es : List BRow) (A2 : Option Addr) (n2 cap2 : Nat) (zs : List Int) (w : World) (hl : Rows2 w w.heap.size A n es)
    (hz : ∀ i, i < n2 → ∃ b o, A2 = some ⟨b, o, none⟩ ∧ b < w.heap.size ∧ w.cell? ⟨b, o + i, none⟩ = some (.int .i64 (zs.getD i 0)) ∧ -9223372036854775808 ≤ zs.getD i 0 ∧ zs.getD i 0 ≤ 9223372036854775807) :
    Calls Try.prog 4 #[.slice A n cap, .slice A2 n2 cap2] w fun e w' => e = .returned (.bool true) ∧ Below w.heap.size w w' := by
  obtain ⟨i0, hi, hz0, hz1, hz2⟩ := info_parts Try.info5
  have HZ := Lib.hid hz
  clear hz
  by_cases h30 : 30 < n
  · go_enter Try.func4, Try.ntmps4
    go_wp2_with fail
    refine (awake13_any _).mono ?_
    rintro e w4 ⟨rfl, hb4⟩
    go_wp2_with fail
    go_ret
    exact ⟨rfl, hb4⟩
  go_enter Try.func4, Try.ntmps4
  go_wp2_with fail
  go_loopw [5, 21] (fun v i wr => ∃ (k nb cb : Nat) (Ab : Option Addr) (L : List UInt8), k ≤ n ∧ i = .int .i64 k ∧ v = .slice Ab nb cb ∧ nb ≤ 300 * k ∧ Hid (wr.ownsRow w.heap.size 5 1 (.slice Ab nb cb) nb (bv L)) ∧ Hid (Below w.heap.size w wr)) (fun _ i _ => n - (intOf i).toNat)
  case atStart => exact ⟨0, 0, 0, none, [], by omega, rfl, rfl, by omega, World.ownsRow_nil _ _ _ _, Below.refl _ _⟩
  case round =>
    obtain ⟨k, nb, cb, Ab, L, hk, rfl, rfl, hnb, hown, hb⟩ := hrel
    by_cases hlt : k < n
    · obtain ⟨b, o, rfl, r, hr, hcell, hrow⟩ := (hl.below hb.out).at_ hlt
      clear hr
      have hsz := hb.out.size
      by_cases h300 : 300 < r.n
      · go_wp2_with fail
        refine (awake13_any _).mono ?_
        rintro e w4 ⟨rfl, hb4⟩
        go_wp2_with fail
        go_ret
        exact ⟨rfl, hb.out.trans (hb4.mono hsz)⟩
      have HROW := Lib.hid hrow
      clear hrow
      go_wp2_with fail
      refine (r7wrap_res k w.heap.size r.n r.c r.A r.l wr (by omega) HROW.out (by omega) hsz).mono ?_
      rintro e w1 ⟨A8, n8, c8, L8, er, rfl, hr8, hn8, hb8⟩
      have HB1 : Hid (Below w.heap.size w w1) := hb.out.trans (hb8.out.mono hsz)
      have HO1 := Lib.hid (own_below hown.out hb8.out)
      have HR1 := Lib.hid (HROW.out.below (hb8.out.mono hsz))
      have hs1 : w.heap.size ≤ w1.heap.size := HB1.out.size
      clear hown hb8 HROW hcell
      by_cases hkz : k < n2
      · obtain ⟨bz, oz, rfl, hbz, hcz, _, _⟩ := HZ.out k hkz
        have hcz1 := (World.cell?_of_block (w := w) (w' := w1) (a := ⟨bz, oz + k, none⟩) (HB1.out.block bz hbz)).trans hcz
        generalize zs.getD k 0 = zz at *
        clear hcz
        go_wp2_with (first
          | (at_builtin; refine wpList_app rfl (.tmp 53) (.tmp 54) 22 rfl w.heap.size 5 i0 (.int .u8 0) 1 Try.underlying22 hi hz0 hz1 hz2 rfl _ nb _ rfl HO1.out _ A8 n8 c8 _ rfl hr8.out (bv_one _) (by unfold maxLen; omega) (by omega) hs1 ?_; intro v4 w4 hown4 hg4 hat4)
          | (at_builtin; refine wpList_app rfl (.tmp 56) (.tmp 57) 22 rfl w.heap.size 5 i0 (.int .u8 0) 1 Try.underlying22 hi hz0 hz1 hz2 rfl _ nb _ rfl HO1.out _ r.A r.n r.c _ rfl HR1.out (bv_one _) (by unfold maxLen; omega) (by omega) hs1 ?_; intro v4 w4 hown4 hg4 hat4))
        all_goals
          have hb4 : Below w.heap.size w w4 := below_app HB1.out hs1 HO1.out (Nat.le_refl _) hg4
          rw [← bv_append] at hown4
          obtain ⟨A4, c4, rfl, _⟩ := own_slice hown4
          go_roundw
          case rel => exact ⟨k + 1, _, c4, A4, _, by omega, by go_num, rfl, by omega, hown4, hb4⟩
          case measure => simp [intOf]; omega
      · go_wp2_with (at_builtin; refine wpList_app rfl (.tmp 56) (.tmp 57) 22 rfl w.heap.size 5 i0 (.int .u8 0) 1 Try.underlying22 hi hz0 hz1 hz2 rfl _ nb _ rfl HO1.out _ r.A r.n r.c _ rfl HR1.out (bv_one _) (by unfold maxLen; omega) (by omega) hs1 ?_; intro v4 w4 hown4 hg4 hat4)
        have hb4 : Below w.heap.size w w4 := below_app HB1.out hs1 HO1.out (Nat.le_refl _) hg4
        rw [← bv_append] at hown4
        obtain ⟨A4, c4, rfl, _⟩ := own_slice hown4
        go_roundw
        case rel => exact ⟨k + 1, _, c4, A4, _, by omega, by go_num, rfl, by omega, hown4, hb4⟩
        case measure => simp [intOf]; omega
    · obtain rfl : n = k := by omega
      have hcb := Lib.hid (own_cap hown.out)
      have hsz := hb.out.size
      have HRB := Lib.hid (Row.of_own hown.out)
      go_wp2_with fail
      refine (all_any wr.heap.size nb cb Ab L wr HRB.out hcb.out.1 hcb.out.2 (Nat.le_refl _) (by omega)).mono ?_
      rintro e w1 ⟨Ap, np, cp, ep, cc, rfl, hsp, hlp, hbp⟩
      have HRB1 := Lib.hid (HRB.out.below hbp.out)
      go_wp2_with fail
      refine (r7all_any wr.heap.size nb cb Ab L w1 HRB1.out hcb.out.1 hcb.out.2 hbp.out.size (by omega)).mono ?_
      rintro e w2 ⟨Aq, nq, cq, eq, cc', rfl, hsq, hlq, hbq⟩
      obtain ⟨he, rfl⟩ := hsp.out.uniq hsq.out
      have hp1 := (hlp.out.below hbq.out).rows
      have hq1 := hlq.out.rows
      have hnn : np = nq := by
        have h1 := hp1.1.1
        have h2 := hq1.1.1
        have h3 := congrArg List.length he
        simp at h1 h2 h3
        omega
      subst hnn
      have HP1 := Lib.hid hp1
      have HQ1 := Lib.hid hq1
      have HE := Lib.hid he
      have hcp := own_cap hlp.out.1
      have HB2 : Hid (Below w.heap.size w w2) := (hb.out.trans (hbp.out.mono hsz)).trans (hbq.out.mono (Nat.le_trans hsz hbp.out.size))
      clear hsp hsq hlp hlq hbp hbq hp1 hq1 he HRB HRB1 hown hb
      go_wp2_with fail
      go_loopw [82] (fun i wx => ∃ k : Nat, k ≤ np ∧ i = .int .i64 k ∧ Below w2.heap.size w2 wx) (fun i _ => np - (intOf i).toNat)
      case atStart => exact ⟨0, by omega, rfl, Below.refl _ _⟩
      case round =>
        obtain ⟨k, hk, rfl, hbx⟩ := hrel
        by_cases hlt2 : k < np
        · obtain ⟨b1, o1, rfl, r, hr, hcell, hrow⟩ := (HP1.out.below hbx).at_ hlt2
          obtain ⟨b2, o2, rfl, r', hr', hcell', hrow'⟩ := (HQ1.out.below hbx).at_ hlt2
          have heq : r'.l = r.l := by
            have h1 : (ep.map (·.l))[k]? = some r.l := by rw [List.getElem?_map, hr]; rfl
            have h2 : (eq.map (·.l))[k]? = some r'.l := by rw [List.getElem?_map, hr']; rfl
            rw [HE.out, h2] at h1
            injection h1
          rw [heq] at hrow'
          have hk1 := run_string_row (P := Try.prog) (show Row wr.drew w2.heap.size r.A r.n (bv r.l) from hrow) r.c 22 9 5 Try.underlying22 Try.underlying5 Try.underlying9
          have hk2 := run_string_row (P := Try.prog) (show Row wr.drew w2.heap.size r'.A r'.n (bv r.l) from hrow') r'.c 22 9 5 Try.underlying22 Try.underlying5 Try.underlying9
          clear hrow hrow' hr hr' heq
          generalize r.l = rl at *
          have hnp : (np : Int) ≤ 9223372036854775807 := by omega
          go_wp2_with fail
          go_region
          all_goals
            go_wp2_with fail
            go_roundw
            case rel => exact ⟨k + 1, by omega, by go_num, hbx.drew⟩
            case measure => simp [intOf]; omega
        · have hbw := HB2.out.trans (hbx.mono HB2.out.size)
          have HBW := Lib.hid hbw
          clear hbw hbx
          go_wp2_with fail
          refine (awake13_any _).mono ?_
          rintro e w4 ⟨rfl, hb4⟩
          go_wp2_with fail
          go_ret
          exact ⟨rfl, HBW.out.trans (hb4.mono HBW.out.size)⟩

set_option maxRecDepth 100000 in
theorem frameAll_lifted (os : Os) (started : os.Started) (H : Type) (enc : TypeId × Value → H) :
    ReturnsInHanded {} Try.checked os 4 .any (Rows.frameAllSpec.pre6 enc Try.prog Try.f4 Rows.frameAllRow.domain false) (Rows.frameAllSpec.post enc Try.prog Try.f4 false true false false) := by
  refine law_lift (C := Try.checked) (tb := 4) Try.own started (by kernel_rfl) Try.func4
    (ChangeSpec.witness6 (enc := enc) (C := Try.checked) false ⟨#[], #[.slice none 0 0, .slice none 0 0], []⟩ 8 (by kernel_rfl) (by kernel_rfl) (by kernel_rfl) (by kernel_rfl)) Try.laidOut (by kernel_rfl) rfl rfl Try.underlying4 ?_ ?_
  · intro ds hds
    match ds, hds with
    | [_, _], _ => rfl
  intro W base args ds p hval0 hA0 _ _ hsz0
  have hval : ∀ (j : Nat) t v, Try.f4.params[j]? = some t → args[j]? = some v → Value.okWide Try.prog W .any base t v := hval0
  have hA : DataW.TrodAll enc Try.prog W 0 (fun _ => true) true Try.f4.params.toList args.toList ds p := hA0
  rw [Try.params4] at hA hval
  obtain ⟨v0, v1, d0, d1, p0, p1, rfl, rfl, rfl, h0, h1⟩ := trodAll_two hA
  obtain ⟨A0, n0, cap0, l0, rfl, hrow0, _, _, _⟩ := open_rows Try.underlying32 Try.underlying22 Try.underlying5 (by kernel_rfl) Try.cells5 (hval 0 32 v0 rfl rfl) h0
  obtain ⟨A1, n1, cap1, zs, rfl, _, _, hzs⟩ := open_nums Try.underlying33 Try.underlying3 (by kernel_rfl) (hval 1 33 v1 rfl rfl) h1
  exact fall_walk A0 n0 cap0 l0 A1 n1 cap1 zs W hrow0 hzs

theorem frameAll_holds : Rows.FrameAllSaid :=
  OpenClaim.holds_of_wide 4 Try.f4 rfl rfl rfl rfl rfl rfl rfl ⟨rfl, rfl, rfl, rfl, rfl⟩ rfl rfl rfl rfl rfl (by kernel_rfl) Try.func4 (by kernel_rfl)
    (of_decide_eq_true (by kernel_rfl)) (by unfold Func.isWrapper; rw [if_neg (of_decide_eq_false (by kernel_rfl))]; exact ⟨rfl, rfl⟩)
    (fun os started H enc _ => frameAll_lifted os started H enc)
end Go.Proofs.Ytghadeingmccfaa
