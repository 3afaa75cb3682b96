/- CrcBursts: bytes changed within four side by side are told, whatever they become. For every input, no condition. -/
import Derived.Test.YtcnjhpbakommbaaRows
import Derived.Test.YtcnjhpbakommbaaCrcAwake
import Derived.Test.YtcnjhpbakommbaaCrcPut
import Derived.Test.YtcnjhpbakommbaaLaw
import Derived.Deep.DeepCutAuto
import Derived.StillTailTactics
import Derived.Test.YtcnjhpbakommbaaArr
namespace Go.Proofs.Ytcnjhpbakommbaa
open Go.ChangeShapes Go.WideShapes Go.ChangeAt Go.RowKit
open CrcM (bendTo)

theorem burst_box {w w2 : World} {C : Array Value} {t e : TypeId} (hg : ((w.alloc (.cells C t)).alloc (.cells #[] e)).grownBy w2 (some (w.heap.size + 1))) :
    w2.heap[w.heap.size]? = some (.cells C t (0, 0)) ∧ Below w.heap.size w w2 := by
  refine ⟨(hg.block _ (by simp; omega) (by simp)).trans (heap_alloc2_old _ _ _), ?_⟩
  refine (((Below.refl _ _).alloc (Nat.le_refl _) _).alloc (by simp) _).grown hg (by simp; omega) ?_
  intro k h
  injection h with h
  omega
set_option maxHeartbeats 400000 in
theorem bursts_walk (A : Option Addr) (n cap : Nat) (l : List UInt8) (cut : Int) (hc1 : -9223372036854775808 ≤ cut) (hc2 : cut ≤ 9223372036854775807) (d0 d1 d2 d3 : UInt8) (w : World) (hl : Row w w.heap.size A n (bv l)) (hn : n ≤ cap) (hcap : cap ≤ 9223372036854775807) :
    Calls Try.prog 7 #[.slice A n cap, .int .i64 cut, .agg #[.int .u8 (d0.toNat : Int), .int .u8 (d1.toNat : Int), .int .u8 (d2.toNat : Int), .int .u8 (d3.toNat : Int)]] w fun e w' => e = .returned (.bool true) ∧ Below w.heap.size w w' := by
  by_cases hbig : n < 4 ∨ 2000 < n
  · by_cases h4 : n < 4
    all_goals
      go_enter Try.func7, Try.ntmps7
      go_wp2_with fail
      refine (awake_any _).mono ?_
      rintro e w' ⟨rfl, hb⟩
      go_wp2
      go_ret
      exact ⟨rfl, ((Below.refl _ _).alloc (Nat.le_refl _) _).trans (hb.mono (by simp))⟩
  · obtain ⟨i0, hi, hz0, hz1, hz2⟩ := info_parts Try.info5
    obtain ⟨i, hik, hK⟩ := pick_in cut ((n : Int) - 3) (by omega) (by omega)
    have HK := Lib.hid hK
    clear hK
    have HB := Lib.hid hl.blen
    have hge : 4 ≤ n := by omega
    have hle : n ≤ 2000 := by omega
    clear hbig
    go_enter Try.func7, Try.ntmps7
    go_upto_region 5 with (at_builtin; refine wpList_app rfl (.tmp 20) (.tmp 21) 22 rfl (w.heap.size + 1) 5 i0 (.int .u8 0) 1 Try.underlying22 hi hz0 hz1 hz2 rfl _ 0 [] rfl (own_lit #[] (by simp) (by simp) rfl (by unfold maxLen; omega)) w.heap.size A n cap (bv l) rfl (hl.below (((Below.refl _ _).alloc (Nat.le_refl _) _).alloc (by simp) _)) (bv_one l) (by unfold maxLen; omega) (by omega) (by simp) ?_; intro v2 w2 hown2 hg2 hat2)
    obtain ⟨hbox, hb2⟩ := burst_box hg2
    clear hg2
    rw [HK.out]
    obtain ⟨g, c2, rfl, hg0, hglt⟩ := hown2.form (by omega)
    clear hat2
    rw [List.nil_append, Nat.zero_add] at hown2
    go_wp2_with (refine wpList_load_row rfl _ (.tmp 5) rfl _ rfl _ _ _ _ hbox Try.underlying36 rfl (by kernel_rfl) ?_)
    go_loopw [32] (fun c wr => ∃ k : Nat, k ≤ 4 ∧ c = .int .i64 k ∧ wr.ownsRow (w.heap.size + 1) 5 1 (.slice (some ⟨g, 0, none⟩) n c2) n (bv (bendTo l i [d0, d1, d2, d3] k)) ∧ wr.heap[w.heap.size]? = some (.cells #[.int .u8 (d0.toNat : Int), .int .u8 (d1.toNat : Int), .int .u8 (d2.toNat : Int), .int .u8 (d3.toNat : Int)] 36 (0, 0)) ∧ Below w.heap.size w wr) (fun c _ => 4 - (intOf c).toNat)
    case atStart => exact ⟨0, by omega, rfl, hown2, hbox, hb2⟩
    case round =>
      obtain ⟨k, hk, rfl, hownk, hboxk, hbk⟩ := hrel
      clear hown2 hbox hb2
      by_cases hlt : k < 4
      · have hix := run_index_arr4 (P := Try.prog) (t := 36) Try.underlying36 Try.underlying5 hi hz1 d0 d1 d2 d3 k hlt
        have hcell : wr.cell? ⟨g, i + k, none⟩ = _ := (hownk.cellAt (i + k) (by omega)).trans (bv_getD _ (i + k) (by rw [CrcM.bendTo_length, HB.out]; omega))
        have hfr := hownk.frozenAt (i + k)
        have hst := hownk.stored (i + k) (.int .u8 (bits .xor .u8 (((bendTo l i [d0, d1, d2, d3] k).getD (i + k) 0).toNat : Int) (([d0, d1, d2, d3].getD k 0).toNat : Int)))
        rw [bv_bend] at hst
        have HST := Lib.hid hst.1
        clear hst hownk
        generalize (bendTo l i [d0, d1, d2, d3] k).getD (i + k) 0 = u at *
        have hb1 : (u.toNat : Int) ≤ 255 := by have := CrcM.b_lt u; omega
        generalize hdk : [d0, d1, d2, d3].getD k 0 = dk at *
        have hrel2 : bendTo l i [d0, d1, d2, d3] (k + 1) = CrcM.bend (bendTo l i [d0, d1, d2, d3] k) (i + k) dk := by rw [← hdk]; rfl
        have HR2 := Lib.hid hrel2
        clear hdk hrel2
        go_wp2
        go_roundw
        case rel => exact ⟨k + 1, by omega, by go_num, by rw [HR2.out]; exact HST.out, (Below.heap_setCell _ _ _ _ (by simp; omega)).trans hboxk, hbk.setCell (by simp; omega) _⟩
        case measure => simp [intOf]; omega
      · have hk4 : k = 4 := by omega
        subst hk4
        have hs1 := CrcM.sum_lt (bendTo l i [d0, d1, d2, d3] 4)
        have C1 := Lib.hid (still_of (sum_any _ n c2 _ _ wr.drew (Row.of_own hownk).drew (by omega)))
        have C2 := Lib.hid (still_of (sum_any _ n cap _ _ wr.drew (hl.below hbk).drew (by omega)))
        have HBUR := Lib.hid (CrcM.bursts l i (by rw [HB.out]; omega) d0 d1 d2 d3)
        clear hownk
        have hfin : ∃ b : Bool, ((CrcM.sum (bendTo l i [d0, d1, d2, d3] 4) : Int) == (CrcM.sum l : Int)) = b ∧
            ∀ w : World, (Op.equalIn 10000 36 (.agg #[.int .u8 (d0.toNat : Int), .int .u8 (d1.toNat : Int), .int .u8 (d2.toNat : Int), .int .u8 (d3.toNat : Int)]) (.agg #[.int .u8 0, .int .u8 0, .int .u8 0, .int .u8 0])).run Try.prog w = .ok b w := by
          have hq : ∀ w : World, _ := fun w => run_equalIn_arr4 (P := Try.prog) w 9998 Try.underlying36 Try.underlying5 hi hz1 (by kernel_rfl) (d0.toNat : Int) (d1.toNat : Int) (d2.toNat : Int) (d3.toNat : Int) 0 0 0 0
          refine ⟨_, ?_, hq⟩
          rw [Bool.eq_iff_iff]
          simp only [Bool.and_eq_true, beq_iff_eq]
          constructor
          · intro h
            obtain ⟨rfl, rfl, rfl, rfl⟩ := HBUR.out.1 (Int.ofNat.inj h)
            exact ⟨rfl, rfl, rfl, rfl⟩
          · intro h
            rw [HBUR.out.2 ⟨CrcM.u8_zero _ (by omega), CrcM.u8_zero _ (by omega), CrcM.u8_zero _ (by omega), CrcM.u8_zero _ (by omega)⟩]
        obtain ⟨bb, hse, hae⟩ := hfin
        have hbb : (bb == bb) = true := by cases bb <;> rfl
        clear HBUR
        go_wp2_with fail
        refine wp_region_still_tail 10 (by kernel_rfl) (by kernel_rfl) ?_
        simp only [List.take_succ_cons, List.take_zero, List.drop_succ_cons, List.drop_zero]
        repeat still_step
        still_call C1.out
        repeat still_step
        still_call C2.out
        repeat still_step
        refine still_load_row rfl _ (.tmp 5) rfl _ rfl _ _ _ _ (w := wr.drew) hboxk Try.underlying36 rfl (by kernel_rfl) ?_
        repeat still_step
        refine wpStill_nil ?_
        change wpList _ _ _ _ _ wr.drew
        have hbw : Below w.heap.size w wr.drew := hbk.drew
        generalize wr.drew = w3 at hbw ⊢
        clear C1 C2 hboxk hbk hae
        go_wp2_with fail
        refine (awake_any _).mono ?_
        rintro e w' ⟨rfl, hb⟩
        go_wp2
        go_ret
        exact ⟨rfl, hbw.trans (hb.mono hbw.size)⟩

set_option maxRecDepth 100000 in
theorem crcBursts_lifted (os : Os) (started : os.Started) (H : Type) (enc : TypeId × Value → H) :
    ReturnsInHanded {} Try.checked os 7 .any (Rows.crcBurstsSpec.pre6 enc Try.prog Try.f7 Rows.crcBurstsRow.domain false) (Rows.crcBurstsSpec.post enc Try.prog Try.f7 false true false false) := by
  refine law_lift (C := Try.checked) (tb := 4) Try.own started (by kernel_rfl) Try.func7
    (ChangeSpec.witness6 (enc := enc) (C := Try.checked) false ⟨#[], #[.slice none 0 0, .int .i64 0, .agg #[.int .u8 0, .int .u8 0, .int .u8 0, .int .u8 0]], []⟩ 8 (by kernel_rfl) (by kernel_rfl) (by kernel_rfl) (by kernel_rfl)) Try.laidOut (by kernel_rfl) rfl rfl Try.underlying4 ?_ ?_
  · intro ds hds
    match ds, hds with
    | [_, _, _], _ => rfl
  intro W base args ds p hval0 hA0 _ _ _
  have hval : ∀ (j : Nat) t v, Try.f7.params[j]? = some t → args[j]? = some v → Value.okWide Try.prog W .any base t v := hval0
  have hA : DataW.TrodAll enc Try.prog W 0 (fun _ => true) true Try.f7.params.toList args.toList ds p := hA0
  rw [Try.params7] at hA hval
  obtain ⟨v0, v1, v2, d0, d1, d2, p0, p1, p2, rfl, rfl, rfl, h0, h1, h2⟩ := trodAll_three hA
  obtain ⟨A0, n0, cap0, l0, rfl, hrow0, hnc0, hcm0⟩ := open_bytes Try.underlying22 Try.underlying5 Try.cells5 (hval 0 22 v0 rfl rfl) h0
  obtain ⟨x1, rfl, hx1, hy1⟩ := open_i64 Try.underlying3 (hval 1 3 v1 rfl rfl) h1
  obtain ⟨bs2, hbs2, rfl⟩ := open_arr Try.underlying36 Try.underlying5 Try.cells5 (by kernel_rfl) (hval 2 36 v2 rfl rfl) h2
  match bs2, hbs2 with
  | [e0, e1, e2, e3], _ =>
  exact bursts_walk A0 n0 cap0 l0 x1 hx1 hy1 e0 e1 e2 e3 W hrow0 hnc0 hcm0

theorem crcBursts_holds : Rows.CrcBurstsSaid :=
  OpenClaim.holds_of_wide 7 Try.f7 rfl rfl rfl rfl rfl rfl rfl ⟨rfl, rfl, rfl, rfl, rfl⟩ rfl rfl rfl rfl rfl (by kernel_rfl) Try.func7 (by kernel_rfl)
    (of_decide_eq_true (by kernel_rfl)) (by unfold Func.isWrapper; rw [if_neg (of_decide_eq_false (by kernel_rfl))]; exact ⟨rfl, rfl⟩)
    (fun os started H enc _ => crcBursts_lifted os started H enc)
end Go.Proofs.Ytcnjhpbakommbaa
