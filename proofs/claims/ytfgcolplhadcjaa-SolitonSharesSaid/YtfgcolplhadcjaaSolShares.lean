/- SolitonShares: of numbers evenly apart each degree has its share, to one and one more. For every input, no condition. -/
import Derived.Test.YtfgcolplhadcjaaRows
import Derived.Test.YtfgcolplhadcjaaSolAwake
import Derived.Test.YtfgcolplhadcjaaLaw
import Derived.Deep.DeepCutAuto
namespace Go.Proofs.Ytfgcolplhadcjaa
open Go.ChangeShapes Go.WideShapes Go.ChangeAt Go.RowKit
open SoM
/-- the edge of what is below -/
def edge (B S : Nat) : Nat := (B * 4294967296 + S - 1) / S
theorem edge_out (n d : Nat) (h1 : 1 ≤ n) (h2 : n ≤ 80) (h3 : 1 ≤ d) (h4 : d ≤ n) (h : 4294967295 < edge (sm n d) (sm n n)) : d = n := by
  obtain ⟨_, _, _, hs4, _, _, hs1⟩ := wt_bound n n h1 h2 h1 (Nat.le_refl _)
  rcases Nat.lt_or_ge d n with hc | hc
  · exfalso
    have hm := sm_mono n (d + 1) n (by omega)
    have hw := (wt_bound n (d + 1) h1 h2 (by omega) (by omega)).1
    have he : sm n (d + 1) = sm n d + wt n (d + 1) := rfl
    generalize sm n n = S at *
    generalize sm n d = B at *
    unfold edge at h
    have h5 : 4294967296 ≤ (B * 4294967296 + S - 1) / S := h
    rw [Nat.le_div_iff_mul_le (by omega)] at h5
    omega
  · omega
theorem edge_pos (n d : Nat) (h1 : 1 ≤ n) (h2 : n ≤ 80) (h3 : 1 ≤ d) (h4 : d ≤ n) : 1 ≤ edge (sm n d) (sm n n) := by
  obtain ⟨_, _, _, _, _, _, hs1⟩ := wt_bound n n h1 h2 h1 (Nat.le_refl _)
  obtain ⟨_, _, _, _, _, _, hb1⟩ := wt_bound n d h1 h2 h3 h4
  unfold edge
  rw [Nat.le_div_iff_mul_le (by omega)]
  omega
theorem edge_above (n d k : Nat) (h1 : 1 ≤ n) (h2 : n ≤ 80) (h : IsDeg n (atx n (edge (sm n d) (sm n n))) k) : d < k := by
  obtain ⟨_, _, _, hs4, _, _, hs1⟩ := wt_bound n n h1 h2 h1 (Nat.le_refl _)
  have ha : sm n d ≤ atx n (edge (sm n d) (sm n n)) := by
    unfold atx edge
    generalize sm n n = S at *
    generalize sm n d = B at *
    rw [Nat.le_div_iff_mul_le (by omega)]
    have e := Nat.div_add_mod (B * 4294967296 + S - 1) S
    have e2 := Nat.mod_lt (B * 4294967296 + S - 1) (show 0 < S by omega)
    rw [Nat.mul_comm] at e
    omega
  obtain ⟨_, _, _, h4⟩ := h
  rcases Nat.lt_or_ge d k with hc | hc
  · exact hc
  · have := sm_mono n k d hc
    omega
theorem edge_under (n d k : Nat) (h1 : 1 ≤ n) (h2 : n ≤ 80) (h3 : 1 ≤ d) (h4 : d ≤ n) (h : IsDeg n (atx n (edge (sm n d) (sm n n) - 1)) k) : k ≤ d := by
  obtain ⟨_, _, _, hs4, _, _, hs1⟩ := wt_bound n n h1 h2 h1 (Nat.le_refl _)
  have hp := edge_pos n d h1 h2 h3 h4
  have ha : atx n (edge (sm n d) (sm n n) - 1) < sm n d := by
    unfold atx edge at *
    generalize sm n n = S at *
    generalize sm n d = B at *
    rw [Nat.div_lt_iff_lt_mul (by omega), Nat.sub_mul]
    have e := Nat.div_mul_le_self (B * 4294967296 + S - 1) S
    have e3 : S ≤ (B * 4294967296 + S - 1) / S * S := by
      have := Nat.mul_le_mul_right S hp
      omega
    omega
  obtain ⟨_, _, h5, _⟩ := h
  rcases Nat.lt_or_ge d k with hc | hc
  · have := sm_mono n d (k - 1) (by omega)
    omega
  · exact hc
def bl (n d k : Nat) : Nat := sm n (min k d)
theorem bl_in (n d k : Nat) (h : k < d) : bl n d (k + 1) = bl n d k + wt n (k + 1) := by
  unfold bl; rw [show min (k + 1) d = k + 1 by omega, show min k d = k by omega]; rfl
theorem bl_out (n d k : Nat) (h : ¬ k < d) : bl n d (k + 1) = bl n d k := by
  unfold bl; rw [show min (k + 1) d = d by omega, show min k d = d by omega]
theorem bl_le (n d k : Nat) : bl n d k ≤ sm n k := by
  unfold bl; exact sm_mono _ _ _ (by omega)
set_option maxRecDepth 100000 in
set_option maxHeartbeats 3200000 in
theorem sshares_walk (n0 : Int) (_ : -9223372036854775808 ≤ n0) (_ : n0 ≤ 9223372036854775807) (d0 : Int) (_ : -9223372036854775808 ≤ d0) (_ : d0 ≤ 9223372036854775807) (w : World) :
    Calls Try.prog 10 #[.int .i64 n0, .int .i64 d0] w fun e w' => e = .returned (.bool true) ∧ Below w.heap.size w w' := by
  obtain ⟨p, hp, hnp⟩ := pick_in n0 80 (by omega) (by omega)
  obtain ⟨n, hn⟩ : ∃ n : Nat, n = p + 1 := ⟨_, rfl⟩
  have h1 : 1 ≤ n := by omega
  have h2 : n ≤ 80 := by omega
  obtain ⟨q, hq, hdq⟩ := pick_in d0 (n : Int) (by omega) (by omega)
  obtain ⟨d, hd⟩ : ∃ d : Nat, d = q + 1 := ⟨_, rfl⟩
  have hw1 : wrap64 (1 + (p : Int)) = (n : Int) := by rw [IntWalk.wrap64_in _ ⟨by omega, by omega⟩]; omega
  have hw2 : wrap64 (1 + (q : Int)) = (d : Int) := by rw [IntWalk.wrap64_in _ ⟨by omega, by omega⟩]; omega
  have hwu : IntKind.u64.wrap (n : Int) = (n : Int) := by simp only [IntKind.wrap, IntKind.bits, IntKind.signed]; simp; omega
  have HNP := Lib.hid hnp
  have HDQ := Lib.hid hdq
  have HW1 := Lib.hid hw1
  have HW2 := Lib.hid hw2
  have h3 : 1 ≤ d := by omega
  have h4 : d ≤ n := by omega
  have hn0 : ¬ (n : Int) = 0 := by omega
  clear hnp hdq hw1 hw2 hp hq hn hd
  go_enter Try.func10, Try.ntmps10
  go_upto_region 2 with fail
  rw [HNP.out, HW1.out]
  clear HNP HW1
  go_upto_region 3 with fail
  rw [HDQ.out, HW2.out]
  clear HDQ HW2 hwu
  have hnew := Lib.hid (new_in n w h1 h2)
  go_wp2_with fail
  refine hnew.out.mono ?_
  rintro e w1 ⟨rfl, hT1, hb1⟩
  go_wp2_with fail
  refine (weights_any w.heap.size n 0 0 _ w1 hT1.out h1 h2).mono ?_
  rintro e w2 ⟨A, c, rfl, hown, hb2⟩
  have HB2 : Hid (Below w.heap.size w w2) := hb1.out.trans (hb2.out.mono hb1.out.size)
  have HT2 := Lib.hid (hT1.out.below hb2.out hT1.out.lt)
  obtain ⟨g, c', hv, _, _⟩ := hown.out.form (by omega)
  injection hv with e1 e2 e3
  subst e1 e3
  have HROW := Lib.hid (Row.of_own hown.out)
  clear hown hT1 hb1 hb2 hnew
  go_wp2_with fail
  go_loop [7, 8, 34] (fun s b z => ∃ k : Nat, k ≤ n ∧ s = .int .u64 (sm n k : Nat) ∧ b = .int .u64 (bl n d k : Nat) ∧ z = .int .i64 k) (fun _ _ z => n - (intOf z).toNat)
  case atStart => exact ⟨0, by omega, rfl, by simp [bl, sm], rfl⟩
  case round =>
    obtain ⟨k, hk, rfl, rfl, rfl⟩ := hrel
    by_cases hlk : k < n
    · obtain ⟨b, o, eA, _, hcw⟩ := HROW.out.cellAt hlk (uv_get _ k (by simp [ws]; exact hlk))
      injection eA with eA
      injection eA with eb eo
      subst eb eo
      rw [ws_getD n k hlk, Nat.zero_add] at hcw
      obtain ⟨b1, b2, _, b4, _, _, _⟩ := wt_bound n (k + 1) h1 h2 (by omega) (by omega)
      have hsn : sm n (k + 1) = sm n k + wt n (k + 1) := rfl
      have hbl := bl_le n d k
      have HSN := Lib.hid hsn
      have HBI := Lib.hid (bl_in n d k)
      have HBO := Lib.hid (bl_out n d k)
      rw [hsn] at b4
      generalize wt n (k + 1) = x at *
      generalize sm n k = s at *
      generalize bl n d k = b' at *
      have hx2 : (s : Int) + (x : Int) ≤ 4000000 := by omega
      have hx3 : (b' : Int) + (x : Int) ≤ 4000000 := by omega
      clear hsn b1 b2 b4 hbl
      by_cases hc : k < d
      · have hci : (k : Int) < (d : Int) := by omega
        have hbn := HBI.out hc
        have HBN := Lib.hid hbn
        clear hbn hc
        go_wp2_with fail
        go_round
        case rel => exact ⟨k + 1, by omega, by rw [HSN.out]; go_num, by rw [HBN.out]; go_num, by go_num⟩
        case measure => simp [intOf]; omega
      · have hci : ¬ (k : Int) < (d : Int) := by omega
        have hbn := HBO.out hc
        have HBN := Lib.hid hbn
        clear hbn hc
        go_wp2_with fail
        go_round
        case rel => exact ⟨k + 1, by omega, by rw [HSN.out]; go_num, by rw [HBN.out], by go_num⟩
        case measure => simp [intOf]; omega
    · obtain rfl : n = k := by omega
      have hbd : bl n d n = sm n d := by unfold bl; rw [show min n d = d by omega]
      rw [hbd]
      obtain ⟨_, _, _, hs4, _, _, hs1⟩ := wt_bound n n h1 h2 h1 (Nat.le_refl _)
      obtain ⟨_, _, _, hb4, _, _, hb1⟩ := wt_bound n d h1 h2 h3 h4
      have HEO := Lib.hid (edge_out n d h1 h2 h3 h4)
      have HEP := Lib.hid (edge_pos n d h1 h2 h3 h4)
      have HEA := Lib.hid (fun k => edge_above n d k h1 h2)
      have HEU := Lib.hid (fun k => edge_under n d k h1 h2 h3 h4)
      generalize sm n n = S at *
      generalize sm n d = B at *
      obtain ⟨E, hE⟩ : ∃ E, edge B S = E := ⟨_, rfl⟩
      rw [hE] at HEO HEP HEA HEU
      have hS0 : ¬ (S : Int) = 0 := by omega
      have hSb : ((S : Int) == 0) = false := by simp; omega
      have hSn : ¬ 4294967296 < S := by omega
      have hSi : (S : Int) ≤ 4000000 := by omega
      have hSj : ¬ (4294967296 : Int) < (S : Int) := by omega
      have hBi : (B : Int) ≤ 4000000 := by omega
      have hEi : ((B : Int) * 4294967296 + (S : Int) - 1) / (S : Int) = (E : Int) := by
        rw [← hE, edge, Int.natCast_ediv, Int.natCast_sub (by omega), Int.natCast_add, Int.natCast_mul]
        rfl
      clear hs1 hb1 hs4 hb4 hE
      by_cases hc : 4294967295 < E
      · obtain rfl := HEO.out hc
        have hci : (4294967295 : Int) < (E : Int) := by omega
        have hdd : ((d : Int) == (d : Int)) = true := by simp
        go_wp2_with fail
        refine (awake7_any w2).mono ?_
        rintro e w3 ⟨rfl, hb3⟩
        go_wp2_with fail
        go_ret
        exact ⟨rfl, HB2.out.trans (hb3.mono HB2.out.size)⟩
      · have hci : ¬ (4294967295 : Int) < (E : Int) := by omega
        have hE1 := HEP.out
        obtain ⟨F, hF⟩ : ∃ F, F = E - 1 := ⟨_, rfl⟩
        rw [← hF] at HEU
        have hFi : (E : Int) - 1 = (F : Int) := by omega
        have hE0 : ((E : Int) == 0) = false := by simp; omega
        have hEl : (E : Int) ≤ 4294967295 := by omega
        have hEn : E < 4294967296 := by omega
        have hFn : F < 4294967296 := by omega
        have hE2 := Lib.hid hE1
        clear hc hF hE1
        go_wp2_with fail
        refine (degree_first w.heap.size n E w2 HT2.out h1 h2 hEn).mono ?_
        rintro e w3 ⟨k1, rfl, hd1, hF1, hbt1⟩
        have HB3 : Hid (Below w.heap.size w w3) := HB2.out.trans (hbt1.out.below (Nat.le_refl _) HB2.out.size)
        have ca : (d : Int) < (k1 : Int) := by have := HEA.out k1 hd1.out; omega
        go_wp2_with fail
        refine (degree_again w.heap.size n F w3 hF1.out h1 h2 hFn).mono ?_
        rintro e w4 ⟨k2, rfl, hd2, _, hbt2⟩
        have HB4 : Hid (Below w.heap.size w w4) := HB3.out.trans (hbt2.out.below (Nat.le_refl _) HB3.out.size)
        have cb : (k2 : Int) ≤ (d : Int) := by have := HEU.out k2 hd2.out; omega
        go_wp2_with fail
        refine (awake7_any w4).mono ?_
        rintro e w5 ⟨rfl, hb5⟩
        go_wp2_with fail
        go_ret
        exact ⟨rfl, HB4.out.trans (hb5.mono HB4.out.size)⟩
set_option maxRecDepth 100000 in
theorem solitonShares_lifted (os : Os) (started : os.Started) (H : Type) (enc : TypeId × Value → H) :
    ReturnsInHanded {} Try.checked os 10 .any (Rows.solitonSharesSpec.pre6 enc Try.prog Try.f10 Rows.solitonSharesRow.domain false) (Rows.solitonSharesSpec.post enc Try.prog Try.f10 false true false false) := by
  refine law_lift (C := Try.checked) (tb := 4) Try.own started (by kernel_rfl) Try.func10
    (ChangeSpec.witness6 (enc := enc) (C := Try.checked) false ⟨#[], #[.int .i64 0, .int .i64 0], []⟩ 8 (by kernel_rfl) (by kernel_rfl) (by kernel_rfl) (by kernel_rfl)) Try.laidOut (by kernel_rfl) rfl rfl Try.underlying4 ?_ ?_
  · intro ds hds
    match ds, hds with
    | [_, _], _ => rfl
  intro W base args ds p hval0 hA0 _ _ hsz0
  have hval : ∀ (j : Nat) t v, Try.f10.params[j]? = some t → args[j]? = some v → Value.okWide Try.prog W .any base t v := hval0
  have hA : DataW.TrodAll enc Try.prog W 0 (fun _ => true) true Try.f10.params.toList args.toList ds p := hA0
  rw [Try.params10] at hA hval
  obtain ⟨v0, v1, d0, d1, p0, p1, rfl, rfl, rfl, h0, h1⟩ := trodAll_two hA
  obtain ⟨x0, rfl, hx0, hy0⟩ := open_i64 Try.underlying3 (hval 0 3 v0 rfl rfl) h0
  obtain ⟨x1, rfl, hx1, hy1⟩ := open_i64 Try.underlying3 (hval 1 3 v1 rfl rfl) h1
  exact sshares_walk x0 hx0 hy0 x1 hx1 hy1 W 

theorem solitonShares_holds : Rows.SolitonSharesSaid :=
  OpenClaim.holds_of_wide 10 Try.f10 rfl rfl rfl rfl rfl rfl rfl ⟨rfl, rfl, rfl, rfl, rfl⟩ rfl rfl rfl rfl rfl (by kernel_rfl) Try.func10 (by kernel_rfl)
    (of_decide_eq_true (by kernel_rfl)) (by unfold Func.isWrapper; rw [if_neg (of_decide_eq_false (by kernel_rfl))]; exact ⟨rfl, rfl⟩)
    (fun os started H enc _ => solitonShares_lifted os started H enc)
end Go.Proofs.Ytfgcolplhadcjaa
