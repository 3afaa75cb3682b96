/- FrameBounds: just so many bytes fit into a frame; less than nine are none. For every input, no condition. -/
import Derived.Test.YtknealemooaneadRows
import Derived.Test.YtknealemooaneadFrameAwake
import Derived.Test.YtknealemooaneadLaw
namespace Go.Proofs.Ytknealemooanead
open Go.ChangeShapes Go.WideShapes Go.ChangeAt Go.RowKit
open FrM (flen inner frame)

theorem madeZ (n : Nat) : (madeCells #[Value.int .u8 0] n).toList = bv (List.replicate n 0) := by
  rw [toList_madeCells_one]; simp [bv]
set_option maxHeartbeats 800000 in
theorem bounds_walk (x : Int) (hx1 : -9223372036854775808 ≤ x) (hx2 : x ≤ 9223372036854775807) (A : Option Addr) (n cap : Nat) (l : List UInt8) (w : World) (hl : Row w w.heap.size A n (bv l)) (hn : n ≤ cap) (hcap : cap ≤ 9223372036854775807) :
    Calls Try.prog 4 #[.int .i64 x, .slice A n cap] w fun e w' => e = .returned (.bool true) ∧ Below w.heap.size w w' := by
  obtain ⟨i0, hi, hz0, hz1, hz2⟩ := info_parts Try.info5
  obtain ⟨k, hk, hK⟩ := pick_in x 12 (by omega) (by omega)
  have HK := Lib.hid hK
  clear hK
  obtain ⟨m, hm⟩ : ∃ m, m = 285 + k := ⟨_, rfl⟩
  have hm1 : m ≤ 296 := by omega
  have hm2 : 285 ≤ m := by omega
  have HM := Lib.hid hm
  clear hm hk
  go_enter Try.func4, Try.ntmps4
  go_upto_region 1 with fail
  go_upto_region 2 with fail
  rw [HK.out, show wrap64 (285 + (k : Int)) = (m : Int) by rw [IntWalk.wrap64_in _ ⟨by have := HM.out; omega, by have := HM.out; omega⟩]; have := HM.out; omega]
  by_cases hbig : 291 < m
  · go_wp2_with (at_make; refine wpList_make_full w rfl _ _ 23 rfl w.heap.size 5 i0 (.int .u8 0) 1 Try.underlying23 hi hz0 hz1 .i64 .i64 _ _ m rfl rfl rfl rfl (by rw [hz2]; omega) (by unfold maxLen; omega) (Nat.le_refl _) ?_; intro w1 hown1 hg1)
    have hb1 : Below w.heap.size w w1 := (Below.refl _ _).grown hg1 (Nat.le_refl _) (by intro g h; nomatch h)
    refine (wrap_long 2 m m _ w1 (by omega) (by omega) hbig).mono ?_
    rintro e w' ⟨rfl, rfl⟩
    clear hown1 hg1
    go_wp2_with fail
    refine (awake13_any _).mono ?_
    rintro e w' ⟨rfl, hb⟩
    go_wp2
    go_ret
    exact ⟨rfl, hb1.trans (hb.mono hb1.size)⟩
  · go_wp2_with (at_make; refine wpList_make_full w rfl _ _ 23 rfl w.heap.size 5 i0 (.int .u8 0) 1 Try.underlying23 hi hz0 hz1 .i64 .i64 _ _ m rfl rfl rfl rfl (by rw [hz2]; omega) (by unfold maxLen; omega) (Nat.le_refl _) ?_; intro w1 hown1 hg1)
    have hb1 : Below w.heap.size w w1 := (Below.refl _ _).grown hg1 (Nat.le_refl _) (by intro g h; nomatch h)
    have hs1 := hb1.size
    rw [show (madeCells (Value.int .u8 0).cells (m * 1)).toList = bv (List.replicate m 0) by rw [Nat.mul_one]; exact madeZ m] at hown1
    refine (wrap_at 2 2 rfl w1.heap.size m m _ (List.replicate m 0) w1 (Row.of_own hown1) (by omega) (Nat.le_refl _)).mono ?_
    rintro e w2 ⟨A2, n2, c2, rfl, hn2, hown2, hb2⟩
    have hn2' : n2 = m + 9 := by rw [hn2.out, FrM.frame_length, List.length_replicate]
    subst hn2'
    have hs2 := hb2.size
    have hc2 := own_cap hown2
    clear hown1 hg1
    go_wp2_with fail
    refine (unwrap_frame 2 (List.replicate m 0) w2.heap.size (m + 9) c2 A2 w2 (Row.of_own hown2) (by simp; omega) hc2.1 hc2.2 (Nat.le_refl _)).mono ?_
    rintro e w3 ⟨A3, n3, c3, rfl, hn3, hrow3, hc3, hb3⟩
    have hn3' : n3 = m := by rw [hn3.out, List.length_replicate]
    subst hn3'
    have hs3 := hb3.size
    have hown2' := own_below hown2 hb3
    clear hown2 hrow3
    go_wp2_with (first
      | (at_builtin; refine wpList_app rfl (.tmp 46) (.tmp 47) 23 rfl w3.heap.size 5 i0 (.int .u8 0) 1 Try.underlying23 hi hz0 hz1 hz2 rfl _ 0 [] rfl (own_lit #[] rfl (Nat.le_refl _) rfl (by unfold maxLen; omega)) _ A2 (n3 + 9) c2 _ rfl ((Row.of_own hown2').alloc (Nat.le_refl _) _) (bv_one _) (by unfold maxLen; omega) (by omega) (by simp) ?_; intro v4 w4 hown4 hg4 hat4)
      | (at_builtin; refine wpList_app rfl (.tmp 48) (.tmp 49) 23 rfl w3.heap.size 5 i0 (.int .u8 0) 1 Try.underlying23 hi hz0 hz1 hz2 rfl v4 (0 + (n3 + 9)) _ rfl (hown4.alloc _) _ _ 1 1 _ rfl (row_new w4 _ _ _) (by intro u hu; simp at hu; subst hu; rfl) (by unfold maxLen; omega) (by omega) (by have := (below_new hg4).size; simp; omega) ?_; intro v5 w5 hown5 hg5 hat5; obtain ⟨A5, c5, rfl, _⟩ := own_slice hown5))
    have hb4 : Below w3.heap.size w3 w4 := below_new hg4
    have hs4 := hb4.size
    have hb5 : Below w3.heap.size w3 w5 := below_app (hb4.alloc hb4.size _) (by simp; omega) (hown4.alloc _) (Nat.le_refl _) hg5
    have hb5' : Below w.heap.size w w5 := ((hb1.trans (hb2.mono hs1)).trans (hb3.mono (by omega))).trans (hb5.mono (by omega))
    have hr5 : Row w5 w5.heap.size A5 (n3 + 9 + 1) (bv (frame 2 (List.replicate n3 0) ++ [0])) := by
      have := Row.of_own hown5
      rw [List.nil_append] at this
      rw [bv_append, show n3 + 9 + 1 = 0 + (n3 + 9) + 1 by omega]
      exact this
    have hc5 : n3 + 9 + 1 ≤ c5 ∧ c5 ≤ 9223372036854775807 := by have := own_cap hown5; omega
    have hcall : Calls Try.prog 11 #[.slice A5 (n3 + 9 + 1) c5] w5 (UnErr 3 w5) := by
      by_cases h291 : n3 = 291
      · exact unwrap_long _ _ _ _ (by omega)
      · refine unwrap_head w5.heap.size _ _ _ _ _ hr5 (by omega) (by omega) hc5.1 hc5.2 ?_
        rintro ⟨_, _, h3⟩
        have e1 : flen (frame 2 (List.replicate n3 0) ++ [0]) = flen (frame 2 (List.replicate n3 0)) := by
          have hl9 := FrM.frame_length 2 (List.replicate n3 0)
          unfold flen
          simp only [List.getD]
          rw [List.getElem?_append_left (by omega), List.getElem?_append_left (by omega)]
        rw [e1, FrM.frame_flen _ _ (by simp; omega), List.length_append, FrM.frame_length] at h3
        simp at h3
    have HC := Lib.hid hcall
    clear hcall hown5 hg5 hat5 hg4 hat4 hown4 hown2' hr5 hb4 hb5 hb2 hb3
    refine (HC.out).mono ?_
    rintro e w6 ⟨rfl, hb6⟩
    have hb6' := hb5'.trans (hb6.mono hb5'.size)
    clear HC hb6 hb5' hb1
    have e9 : ((n3 : Int) + 9 == (n3 : Int) + 9) = true := beq_self_eq_true _
    by_cases h8 : n ≤ 8
    · go_wp2_with fail
      all_goals
        refine (unwrap_short n cap A w6 (by omega)).mono ?_
        rintro e w7 ⟨rfl, hb7⟩
        have hb7' := hb6'.trans (hb7.mono hb6'.size)
        go_wp2_with fail
        refine (awake13_any _).mono ?_
        rintro e w' ⟨rfl, hb⟩
        go_wp2
        go_ret
        exact ⟨rfl, hb7'.trans (hb.mono hb7'.size)⟩
    · go_wp2_with fail
      all_goals
        refine (unwrap_short 8 cap A w6 (by omega)).mono ?_
        rintro e w7 ⟨rfl, hb7⟩
        have hb7' := hb6'.trans (hb7.mono hb6'.size)
        go_wp2_with fail
        refine (awake13_any _).mono ?_
        rintro e w' ⟨rfl, hb⟩
        go_wp2
        go_ret
        exact ⟨rfl, hb7'.trans (hb.mono hb7'.size)⟩

set_option maxRecDepth 100000 in
theorem frameBounds_lifted (os : Os) (started : os.Started) (H : Type) (enc : TypeId × Value → H) :
    ReturnsInHanded {} Try.checked os 4 .any (Rows.frameBoundsSpec.pre6 enc Try.prog Try.f4 Rows.frameBoundsRow.domain false) (Rows.frameBoundsSpec.post enc Try.prog Try.f4 false true false false) := by
  refine law_lift (C := Try.checked) (tb := 4) Try.own started (by kernel_rfl) Try.func4
    (ChangeSpec.witness6 (enc := enc) (C := Try.checked) false ⟨#[], #[.int .i64 0, .slice none 0 0], []⟩ 8 (by kernel_rfl) (by kernel_rfl) (by kernel_rfl) (by kernel_rfl)) Try.laidOut (by kernel_rfl) rfl rfl Try.underlying4 ?_ ?_
  · intro ds hds
    match ds, hds with
    | [_, _], _ => rfl
  intro W base args ds p hval0 hA0 _ _ hsz0
  have hval : ∀ (j : Nat) t v, Try.f4.params[j]? = some t → args[j]? = some v → Value.okWide Try.prog W .any base t v := hval0
  have hA : DataW.TrodAll enc Try.prog W 0 (fun _ => true) true Try.f4.params.toList args.toList ds p := hA0
  rw [Try.params4] at hA hval
  obtain ⟨v0, v1, d0, d1, p0, p1, rfl, rfl, rfl, h0, h1⟩ := trodAll_two hA
  obtain ⟨x0, rfl, hx0, hy0⟩ := open_i64 Try.underlying3 (hval 0 3 v0 rfl rfl) h0
  obtain ⟨A1, n1, cap1, l1, rfl, hrow1, hnc1, hcm1⟩ := open_bytes Try.underlying23 Try.underlying5 Try.cells5 (hval 1 23 v1 rfl rfl) h1
  exact bounds_walk x0 hx0 hy0 A1 n1 cap1 l1 W hrow1 hnc1 hcm1

theorem frameBounds_holds : Rows.FrameBoundsSaid :=
  OpenClaim.holds_of_wide 4 Try.f4 rfl rfl rfl rfl rfl rfl rfl ⟨rfl, rfl, rfl, rfl, rfl⟩ rfl rfl rfl rfl rfl (by kernel_rfl) Try.func4 (by kernel_rfl)
    (of_decide_eq_true (by kernel_rfl)) (by unfold Func.isWrapper; rw [if_neg (of_decide_eq_false (by kernel_rfl))]; exact ⟨rfl, rfl⟩)
    (fun os started H enc _ => frameBounds_lifted os started H enc)
end Go.Proofs.Ytknealemooanead
