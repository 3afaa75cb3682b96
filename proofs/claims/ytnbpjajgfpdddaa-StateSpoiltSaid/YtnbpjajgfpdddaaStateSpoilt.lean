/- downpourlaw19.StateSpoilt, the row. -/
import Derived.Test.YtnbpjajgfpdddaaRows
import Derived.Test.YtnbpjajgfpdddaaLaw
import Derived.Test.YtnbpjajgfpdddaaLawSym
import Derived.Test.YtnbpjajgfpdddaaLawCall
import Derived.Test.YtnbpjajgfpdddaaLawState
import Derived.Test.YtnbpjajgfpdddaaStSpA
import Derived.Test.YtnbpjajgfpdddaaStSpB
import Derived.Test.YtnbpjajgfpdddaaStSpC
namespace Go.Proofs.Ytnbpjajgfpdddaa
section
open Go.RowKit
set_option maxRecDepth 100000 in
set_option maxHeartbeats 1600000 in
theorem stspoilt_no (how : Int) (cs : Array Value) (L : LSt) (w : World) (hs : IsSt w (fun _ => True) cs L) (hm : L.may = false) :
    Calls Try.prog 5 #[.agg cs, .int .i64 how] w fun e w' => e = .returned (.bool true) ∧ Below w.heap.size w w' := by
  have IN : Hid ((Try.prog.info? 30).map (·.size) = some cs.size) := Lib.hid hs.inf
  have e0 := ((Env.start w).addSt hs).alloc cs 30
  have E0 := Lib.hid e0
  clear e0 hs
  go_enter Try.func5, Try.ntmps5
  go_wp2_with ((with_reducible show wpList _ _ _ _ _ _); refine wpList_load_row (o := ⟨some 8, _, _, _, _, _⟩) rfl _ (.tmp 2) rfl w.heap.size rfl _ _ _ _ (E0.out.bx _ _ _ (.head _)) Try.underlying30 rfl IN.out ?_)
  generalize w.alloc (.cells cs 30) = w0 at *
  by_cases hl : L.light
  case neg =>
    refine (heavyS_yes (E0.out.st _ _ (.head _)) hl).mono ?_
    rintro e w1 ⟨rfl, hb1⟩
    have E1 := Lib.hid (E0.out.below hb1)
    clear hb1 E0
    go_wp2_with fail
    refine (awake19_any _).mono ?_
    rintro e wz ⟨rfl, hbz⟩
    have hb := (E1.out.below hbz).b
    go_wp2_with fail
    go_ret
    exact ⟨rfl, hb⟩
  refine (heavyS_no (E0.out.st _ _ (.head _)) hl).mono ?_
  rintro e w1 ⟨rfl, hb1⟩
  have E1 := Lib.hid (E0.out.below hb1)
  clear hb1 E0
  go_wp2_with ((with_reducible show wpList _ _ _ _ _ _); refine wpList_load_rowG (o := ⟨some 12, _, _, _, _, _⟩) (by rfl) _ (.tmp 2) rfl w.heap.size rfl _ _ _ _ (E1.out.bx _ _ _ (.head _)) Try.underlying30 rfl IN.out ?_)
  refine (mayS (E1.out.st _ _ (.head _))).mono ?_
  rintro e w2 ⟨rfl, hb2⟩
  have E2 := Lib.hid (E1.out.below hb2)
  clear hb2 E1 hl
  rw [hm]
  go_wp2_with fail
  refine (awake19_any _).mono ?_
  rintro e wz ⟨rfl, hbz⟩
  have hb := (E2.out.below hbz).b
  go_wp2_with fail
  go_ret
  exact ⟨rfl, hb⟩
theorem stspoilt_walk (how : Int) (cs : Array Value) (L : LSt) (w : World) (hs : IsSt w (fun _ => True) cs L) :
    Calls Try.prog 5 #[.agg cs, .int .i64 how] w fun e w' => e = .returned (.bool true) ∧ Below w.heap.size w w' := by
  cases hm : L.may with
  | false => exact stspoilt_no how cs L w hs hm
  | true =>
  have ha : L.act = 0 ∨ L.act = 1 := by
    have h := hm
    simp only [LSt.may, mayB2, Bool.and_eq_true, decide_eq_true_eq] at h
    exact h.1.1.1
  obtain ⟨A0, c0, A1, c1, A, c, rfl, r⟩ := hs
  have hs : IsSt w (fun _ => True) (L.cells A0 c0 A1 c1 A c) L := ⟨A0, c0, A1, c1, A, c, rfl, r⟩
  obtain ⟨act, tr, flo, gen, v0, l0, h0, v1, l1, h1, on, m⟩ := L
  have hj : IntKind.u64.wrap how % 6 = 0 ∨ IntKind.u64.wrap how % 6 = 1 ∨ IntKind.u64.wrap how % 6 = 2 ∨ IntKind.u64.wrap how % 6 = 3 ∨ IntKind.u64.wrap how % 6 = 4 ∨ IntKind.u64.wrap how % 6 = 5 := by omega
  rcases hj with hj | hj | hj | hj | hj | hj
  · exact spoilt_0 flo gen v0 v1 act tr l0 l1 h0 h1 on m A0 A1 A c0 c1 c how w hs hm hj
  · exact spoilt_1 flo gen v0 v1 act tr l0 l1 h0 h1 on m A0 A1 A c0 c1 c how w hs hm hj
  · rcases ha with ha | ha
    · have ha : act = 0 := ha
      subst ha
      exact spoilt_20 flo gen v0 v1 tr l0 l1 h0 h1 on m A0 A1 A c0 c1 c how w hs hm hj
    · have ha : act = 1 := ha
      subst ha
      exact spoilt_21 flo gen v0 v1 tr l0 l1 h0 h1 on m A0 A1 A c0 c1 c how w hs hm hj
  · rcases ha with ha | ha
    · have ha : act = 0 := ha
      subst ha
      exact spoilt_30 flo gen v0 v1 tr l0 l1 h0 h1 on m A0 A1 A c0 c1 c how w hs hm hj
    · have ha : act = 1 := ha
      subst ha
      exact spoilt_31 flo gen v0 v1 tr l0 l1 h0 h1 on m A0 A1 A c0 c1 c how w hs hm hj
  · cases on
    · exact spoilt_4f flo gen v0 v1 act tr l0 l1 h0 h1 m A0 A1 A c0 c1 c how w hs hm hj
    · exact spoilt_4t flo gen v0 v1 act tr l0 l1 h0 h1 m A0 A1 A c0 c1 c how w hs hm hj
  · rcases ha with ha | ha
    · have ha : act = 0 := ha
      subst ha
      exact spoilt_50 flo gen v0 v1 tr l0 l1 h0 h1 on m A0 A1 A c0 c1 c how w hs hm hj
    · have ha : act = 1 := ha
      subst ha
      exact spoilt_51 flo gen v0 v1 tr l0 l1 h0 h1 on m A0 A1 A c0 c1 c how w hs hm hj
end
open Go.ChangeShapes Go.WideShapes Go.ChangeAt Go.RowKit
set_option maxRecDepth 100000 in
theorem stateSpoilt_lifted (os : Os) (started : os.Started) (H : Type) (enc : TypeId × Value → H) :
    ReturnsInHanded {} Try.checked os 5 .any (Rows.stateSpoiltSpec.pre6 enc Try.prog Try.f5 Rows.stateSpoiltRow.domain false) (Rows.stateSpoiltSpec.post enc Try.prog Try.f5 false true false false) := by
  refine law_lift (C := Try.checked) (tb := 4) Try.own started (by kernel_rfl) Try.func5
    (ChangeSpec.witness6 (enc := enc) (C := Try.checked) false ⟨#[], #[.agg #[.int .i64 0, .int .i64 0, .int .u32 0, .int .u32 0, .int .u32 0, .int .i64 0, .slice none 0 0, .int .u32 0, .int .i64 0, .slice none 0 0, .bool false, .int .u32 0, .int .u32 0, .int .i64 0, .int .i64 0, .int .i64 0, .slice none 0 0], .int .i64 0], []⟩ 8 (by kernel_rfl) (by kernel_rfl) (by kernel_rfl) (by kernel_rfl)) Try.laidOut (by kernel_rfl) rfl rfl Try.underlying4 ?_ ?_
  · intro ds hds
    match ds, hds with
    | [_, _], _ => rfl
  intro W base args ds p hval0 hA0 _ _ hsz0
  have hval : ∀ (j : Nat) t v, Try.f5.params[j]? = some t → args[j]? = some v → Value.okWide Try.prog W .any base t v := hval0
  have hA : DataW.TrodAll enc Try.prog W 0 (fun _ => true) true Try.f5.params.toList args.toList ds p := hA0
  rw [Try.params5] at hA hval
  obtain ⟨v0, v1, d0, d1, p0, p1, rfl, rfl, rfl, h0, h1⟩ := trodAll_two hA
  obtain ⟨act0, trial0, flo0, gen0, va0, la0, Aa0, na0, ca0, ha0, vb0, lb0, Ab0, nb0, cb0, hb0, on0, s0, u0, l0, z0, p0, A0, n0, c0, h_0, rfl, k1_0, k2_0, k3_0, k4_0, k5_0, k6_0, k7_0, k8_0, k9_0, k10_0, k11_0, k12_0, k13_0, k14_0, k15_0, k16_0⟩ := open_state (hval 0 30 v0 rfl rfl) h0
  obtain ⟨x1, rfl, hx1, hy1⟩ := open_i64 Try.underlying3 (hval 1 3 v1 rfl rfl) h1
  exact stspoilt_walk x1 _ _ W (st_in k7_0.1 k10_0.1 k16_0.1)

theorem stateSpoilt_holds : Rows.StateSpoiltSaid :=
  OpenClaim.holds_of_wide 5 Try.f5 rfl rfl rfl rfl rfl rfl rfl ⟨rfl, rfl, rfl, rfl, rfl⟩ rfl rfl rfl rfl rfl (by kernel_rfl) Try.func5 (by kernel_rfl)
    (of_decide_eq_true (by kernel_rfl)) (by unfold Func.isWrapper; rw [if_neg (of_decide_eq_false (by kernel_rfl))]; exact ⟨rfl, rfl⟩)
    (fun os started H enc _ => stateSpoilt_lifted os started H enc)
end Go.Proofs.Ytnbpjajgfpdddaa
