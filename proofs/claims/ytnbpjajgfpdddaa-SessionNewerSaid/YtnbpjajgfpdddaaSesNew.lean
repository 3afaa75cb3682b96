/- SessionNewer's walk. -/
import Derived.Test.YtnbpjajgfpdddaaStEq
namespace Go.Proofs.Ytnbpjajgfpdddaa
open Go.RowKit
theorem manMayS {w : World} {P : Nat → Prop} {ms : Array Value} {M : LMan} (hm : IsMan w P ms M) : Calls Try.prog 28 #[.agg ms] w fun e w' => e = .returned (.bool M.may) ∧ Below w.heap.size w w' := by
  obtain ⟨A, c, rfl, _⟩ := hm
  exact manMay_any _ _ _ _ _ _ _ _ w
theorem admitted_again {L : LSt} {M : LMan} (h : L.admitR M = 0) : (L.admitted M).admitR M = 8 := by
  obtain ⟨hl, hM, ht, _, _, _⟩ := admitR_zero h
  have hm1 : (L.admitted M).may = true := may_man hl hM _
  unfold LSt.admitR
  rw [if_neg (by simp [hm1, hM]), if_neg (by show ¬ L.trial ≠ 0; simp [ht]), if_pos]
  show (true && M.eqb M) = true
  simp [LMan.eqb]
/-- why it was refused -/
theorem admitR_why {L : LSt} {M : LMan} (h : L.admitR M ≠ 0) (h1 : L.may = true) (h2 : M.may = true) (h3 : L.trial = 0) (h4 : L.newer M.v = true) : 4294967294 ≤ L.gen := by
  unfold LSt.admitR at h
  rw [if_neg (by simp [h1, h2]), if_neg (by simp [h3])] at h
  by_cases h5 : (L.on && L.m.eqb M) = true
  · exfalso
    rw [Bool.and_eq_true] at h5
    have := (newer_parts h4).2.2 h5.1
    have e := h5.2
    simp only [LMan.eqb, decide_eq_true_eq] at e
    omega
  · rw [if_neg h5, if_neg (by simp [h4])] at h
    by_cases h6 : 4294967294 ≤ L.gen
    · exact h6
    · rw [if_neg h6] at h; exact absurd rfl h
theorem set8d {w : World} {g : Nat} {t : TypeId} {a0 a1 a2 a3 a4 a5 a6 a7 a8 a9 a10 a11 a12 a13 a14 a15 a16 : Value} (h : w.heap[g]? = some (.cells #[a0, a1, a2, a3, a4, a5, a6, a7, a8, a9, a10, a11, a12, a13, a14, a15, a16] t (0, 0))) (b0 b1 b2 b3 b4 b5 b6 b7 : Value) :
    (((((((((w.setCell ⟨g, 10, none⟩ b0).setCell ⟨g, 11, none⟩ b1).setCell ⟨g, 12, none⟩ b2).setCell ⟨g, 13, none⟩ b3).setCell ⟨g, 14, none⟩ b4).setCell ⟨g, 15, none⟩ b5).setCell ⟨g, 16, none⟩ b6).setCell ⟨g, 3, none⟩ b7).drew).heap[g]? = some (.cells #[a0, a1, a2, b7, a4, a5, a6, a7, a8, a9, b0, b1, b2, b3, b4, b5, b6] t (0, 0)) := by
  rw [drew_heap]
  exact heap_setCell_same _ g 3 _ _ _ (set7 h b0 b1 b2 b3 b4 b5 b6)
theorem keep8 {w : World} {g b : Nat} (h : b ≠ g) (b0 b1 b2 b3 b4 b5 b6 b7 : Value) :
    (((((((((w.setCell ⟨g, 10, none⟩ b0).setCell ⟨g, 11, none⟩ b1).setCell ⟨g, 12, none⟩ b2).setCell ⟨g, 13, none⟩ b3).setCell ⟨g, 14, none⟩ b4).setCell ⟨g, 15, none⟩ b5).setCell ⟨g, 16, none⟩ b6).setCell ⟨g, 3, none⟩ b7).drew).heap[b]? = w.heap[b]? := by
  rw [drew_heap, heap_setCell_other _ _ _ _ h, heap_setCell_other _ _ _ _ h, heap_setCell_other _ _ _ _ h, heap_setCell_other _ _ _ _ h, heap_setCell_other _ _ _ _ h, heap_setCell_other _ _ _ _ h, heap_setCell_other _ _ _ _ h, heap_setCell_other _ _ _ _ h]
set_option maxRecDepth 100000 in
set_option maxHeartbeats 3200000 in
theorem newer_walk (cs ms : Array Value) (L : LSt) (M : LMan) (w : World) (hs : IsSt w (fun _ => True) cs L) (hm : IsMan w (fun _ => True) ms M) :
    Calls Try.prog 9 #[.agg cs, .agg ms] w fun e w' => e = .returned (.bool true) ∧ Below w.heap.size w w' := by
  have e0 := ((((Env.start w).addSt hs).addMan hm).alloc cs 30).alloc ms 28
  rw [show (w.alloc (.cells cs 30)).heap.size = w.heap.size + 1 by simp] at e0
  have E0 := Lib.hid e0
  have IN := Lib.hid hs.inf
  have IM := Lib.hid hm.inf
  have ONE := Lib.hid hs.one
  have SZ : Hid (17 = cs.size) := Lib.hid hs.size.symm
  have HSS := Lib.hid hs
  have HMM := Lib.hid hm
  obtain ⟨MA, mc, hmc, hmr⟩ := hm
  have HM5 : Hid (ms[5]? = some (.slice MA M.h.length mc)) := Lib.hid (by rw [hmc]; rfl)
  have HM1 : Hid (ms[1]? = some (.int .u32 (M.v : Int))) := Lib.hid (by rw [hmc]; rfl)
  have HMC := Lib.hid hmc
  have HMR := Lib.hid hmr
  have CS1 := Lib.hid hs.c1
  have CS3 := Lib.hid hs.c3
  have CS0 := Lib.hid hs.c0
  have CS2 := Lib.hid hs.c2
  have CS4 := Lib.hid hs.c4
  have CS7 := Lib.hid hs.c7
  have CS10 := Lib.hid hs.c10
  have CS12 := Lib.hid hs.c12
  clear e0 hs hmc hmr
  go_enter Try.func9, Try.ntmps9
  go_wp2_with ((with_reducible show wpList _ _ _ _ _ _); refine wpList_load_row (o := ⟨some 10, _, _, _, _, _⟩) rfl _ (.tmp 2) rfl w.heap.size rfl _ _ _ _ (E0.out.bx _ _ _ (.tail _ (.head _))) Try.underlying30 rfl IN.out ?_)
  generalize (w.alloc (.cells cs 30)).alloc (.cells ms 28) = w0 at *
  by_cases hl : L.light
  case neg =>
    refine (heavyS_yes (E0.out.st _ _ (.head _)) hl).mono ?_
    rintro e w1 ⟨rfl, hb1⟩
    have E1 := Lib.hid (E0.out.below hb1)
    clear hb1 E0
    go_wp2_with fail
    refine (awake22_any w1).mono ?_
    rintro e w2 ⟨rfl, hb2⟩
    have hb := (E1.out.below hb2).b
    go_wp2_with fail
    go_ret
    exact ⟨rfl, hb⟩
  refine (heavyS_no (E0.out.st _ _ (.head _)) hl).mono ?_
  rintro e w1 ⟨rfl, hb1⟩
  have E1 := Lib.hid (E0.out.below hb1)
  clear hb1 E0
  have hc5 := (E1.out.cell (.head _) 5).trans HM5.out
  by_cases h100 : 100 < M.h.length
  · go_wp2_with fail
    refine (awake22_any w1).mono ?_
    rintro e w2 ⟨rfl, hb2⟩
    have hb := (E1.out.below hb2).b
    go_wp2_with fail
    go_ret
    exact ⟨rfl, hb⟩
  go_wp2_with (first
    | ((with_reducible show wpList _ _ _ _ _ _); refine wpList_load_row (o := ⟨some 21, _, _, _, _, _⟩) rfl _ (.tmp 2) rfl w.heap.size rfl _ _ _ _ (E1.out.bx _ _ _ (.tail _ (.head _))) Try.underlying30 rfl IN.out ?_)
    | ((with_reducible show wpList _ _ _ _ _ _); refine wpList_load_row (o := ⟨some 22, _, _, _, _, _⟩) rfl _ (.tmp 3) rfl (w.heap.size + 1) rfl _ _ _ _ (E1.out.bx _ _ _ (.head _)) Try.underlying28 rfl IM.out ?_))
  clear hc5
  by_cases hr : L.admitR M = 0
  case neg =>
    refine (admitS_no (E1.out.st _ _ (.head _)) (E1.out.mn _ _ (.head _)) rfl hr).mono ?_
    rintro e w2 ⟨rfl, hb2⟩
    have E2 := Lib.hid ((E1.out.below hb2).alloc zState 30)
    have hne : (L.admitR M != 0) = true := by simp [hr]
    have HWHY := Lib.hid (admitR_why hr)
    have IZ : Hid ((Try.prog.info? 30).map (·.size) = some zState.size) := Lib.hid (by kernel_rfl)
    generalize L.admitR M = r at *
    clear hb2 E1 hr
    go_upto_region 5 with ((with_reducible show wpList _ _ _ _ _ _); refine wpList_store_new rfl rfl _ (.tmp 5) (.tmp 24) rfl _ _ zState _ rfl rfl (by kernel_rfl) (by rfl) (by kernel_rfl) ?_)
    generalize hg5 : w2.heap.size = g5 at *
    clear hg5
    generalize w2.alloc (.cells zState 30) = wB at *
    go_wp2_with ((with_reducible show wpList _ _ _ _ _ _); refine wpList_load_row (o := ⟨some 28, _, _, _, _, _⟩) rfl _ (.tmp 5) rfl g5 rfl _ _ _ _ (E2.out.bx _ _ _ (.head _)) Try.underlying30 rfl IZ.out ?_)
    refine (sameS (zero_is wB (fun _ => True)) (zero_is wB (fun _ => True))).mono ?_
    rintro e w3 ⟨rfl, hb3⟩
    rw [eqb_refl]
    have E3 := Lib.hid (E2.out.below hb3)
    clear hb3 E2
    go_wp2_with ((with_reducible show wpList _ _ _ _ _ _); refine wpList_load_rowG (o := ⟨some 32, _, _, _, _, _⟩) (by rfl) _ (.tmp 2) rfl w.heap.size rfl _ _ _ _ (E3.out.bx _ _ _ (.tail _ (.tail _ (.head _)))) Try.underlying30 rfl IN.out ?_)
    refine (mayS (E3.out.st _ _ (.head _))).mono ?_
    rintro e w4 ⟨rfl, hb4⟩
    have E4 := Lib.hid (E3.out.below hb4)
    clear hb4 E3
    cases hmay : L.may with
    | false =>
      go_wp2_with fail
      refine (awake22_any w4).mono ?_
      rintro e w9 ⟨rfl, hb9⟩
      have hb := (E4.out.below hb9).b
      go_wp2_with fail
      go_ret
      exact ⟨rfl, hb⟩
    | true =>
      go_wp2_with ((with_reducible show wpList _ _ _ _ _ _); refine wpList_load_rowG (o := ⟨some 36, _, _, _, _, _⟩) (by rfl) _ (.tmp 3) rfl (w.heap.size + 1) rfl _ _ _ _ (E4.out.bx _ _ _ (.tail _ (.head _))) Try.underlying28 rfl IM.out ?_)
      refine (manMayS (E4.out.mn _ _ (.head _))).mono ?_
      rintro e w5 ⟨rfl, hb5⟩
      have E5 := Lib.hid (E4.out.below hb5)
      clear hb5 E4
      cases hman : M.may with
      | false =>
        go_wp2_with fail
        refine (awake22_any w5).mono ?_
        rintro e w9 ⟨rfl, hb9⟩
        have hb := (E5.out.below hb9).b
        go_wp2_with fail
        go_ret
        exact ⟨rfl, hb⟩
      | true =>
        have t1 := (E5.out.cell (.tail _ (.tail _ (.head _))) 1).trans CS1.out
        have v1 := (E5.out.cell (.tail _ (.head _)) 1).trans HM1.out
        by_cases ht : L.trial = 0
        case neg =>
          have htb : (L.trial != 0) = true := by simp [ht]
          go_wp2_with fail
          refine (awake22_any w5).mono ?_
          rintro e w9 ⟨rfl, hb9⟩
          have hb := (E5.out.below hb9).b
          go_wp2_with fail
          go_ret
          exact ⟨rfl, hb⟩
        have htb : (L.trial != 0) = false := by simp [ht]
        go_wp2_with ((with_reducible show wpList _ _ _ _ _ _); refine wpList_load_rowG (o := ⟨some 46, _, _, _, _, _⟩) (by rfl) _ (.tmp 2) rfl w.heap.size rfl _ _ _ _ (E5.out.bx _ _ _ (.tail _ (.tail _ (.head _)))) Try.underlying30 rfl IN.out ?_)
        refine (newerS M.v (E5.out.st _ _ (.head _))).mono ?_
        rintro e w6 ⟨rfl, hb6⟩
        have E6 := Lib.hid (E5.out.below hb6)
        clear hb6 E5 t1 v1
        cases hnw : L.newer M.v with
        | false =>
          go_wp2_with fail
          refine (awake22_any w6).mono ?_
          rintro e w9 ⟨rfl, hb9⟩
          have hb := (E6.out.below hb9).b
          go_wp2_with fail
          go_ret
          exact ⟨rfl, hb⟩
        | true =>
          have hge := HWHY.out hmay hman ht hnw
          have g3 := (E6.out.cell (.tail _ (.tail _ (.head _))) 3).trans CS3.out
          have hgd : decide (4294967294 ≤ (L.gen : Int)) = true := by rw [decide_eq_true_eq]; omega
          clear HWHY hge
          go_wp2_with fail
          refine (awake22_any w6).mono ?_
          rintro e w9 ⟨rfl, hb9⟩
          have hb := (E6.out.below hb9).b
          go_wp2_with fail
          go_ret
          exact ⟨rfl, hb⟩
  refine (admitS_yes (E1.out.st _ _ (.head _)) (E1.out.mn _ _ (.head _)) hr).mono ?_
  rintro e w2 ⟨c1, rfl, hs1, hb2⟩
  have E3 := Lib.hid (((E1.out.below hb2.out).addSt hs1.out).alloc c1 30)
  have I1 := Lib.hid hs1.out.inf
  have O1 := Lib.hid hs1.out.one
  have Z1 : Hid (17 = c1.size) := Lib.hid hs1.out.size.symm
  have C13 := Lib.hid hs1.out.c3
  obtain ⟨hm1, hmm, ht0, _, hnw, hgen⟩ := admitR_zero hr
  obtain ⟨n1, n2, n3⟩ := newer_parts hnw
  have HMAY : Hid ((L.admitted M).may = true) := Lib.hid (may_man hm1 hmm _)
  have HDUP := Lib.hid (admitted_again hr)
  have HACT : Hid (L.act = 0 ∨ L.act = 1) := Lib.hid (may_act_of L.act L.trial L.flo L.gen L.v0 L.l0 none 0 0 L.v1 L.l1 none 0 0 L.on L.m.s L.m.v L.m.l L.m.z L.m.p none 0 0 0 L.h0 L.h1 L.m.h hm1)
  have N1 := Lib.hid n1
  have N2 := Lib.hid n2
  have N3 := Lib.hid n3
  have HGEN := Lib.hid hgen
  clear hb2 hs1 E1 hm1 hmm ht0 hnw hgen n1 n2 n3 hr
  go_upto_region 6 with ((with_reducible show wpList _ _ _ _ _ _); refine wpList_store_new rfl rfl _ (.tmp 5) (.tmp 24) rfl _ _ c1 _ rfl rfl I1.out Z1.out O1.out ?_)
  generalize w2.alloc (.cells c1 30) = wA at *
  go_wp2_with (first
    | ((with_reducible show wpList _ _ _ _ _ _); refine wpList_load_row (o := ⟨some 62, _, _, _, _, _⟩) rfl _ (.tmp 5) rfl w2.heap.size rfl _ _ _ _ (E3.out.bx _ _ _ (.head _)) Try.underlying30 rfl I1.out ?_)
    | ((with_reducible show wpList _ _ _ _ _ _); refine wpList_load_row (o := ⟨some 63, _, _, _, _, _⟩) rfl _ (.tmp 3) rfl (w.heap.size + 1) rfl _ _ _ _ (E3.out.bx _ _ _ (.tail _ (.head _))) Try.underlying28 rfl IM.out ?_))
  refine (admitS_no (E3.out.st _ _ (.head _)) (E3.out.mn _ _ (.head _)) HDUP.out (by decide)).mono ?_
  rintro e w4 ⟨rfl, hb4⟩
  have E4 := Lib.hid ((E3.out.below hb4).alloc zState 30)
  clear hb4 E3
  go_upto_region 7 with ((with_reducible show wpList _ _ _ _ _ _); refine wpList_store_new rfl rfl _ (.tmp 7) (.tmp 65) rfl _ _ zState _ rfl rfl (by kernel_rfl) (by rfl) (by kernel_rfl) ?_)
  generalize w4.alloc (.cells zState 30) = w5 at *
  have E5 := Lib.hid (E4.out.alloc cs 30)
  have LT5 : Hid (∀ b, b < w5.heap.size → b ≠ w5.heap.size) := Lib.hid (fun b h => Nat.ne_of_lt h)
  go_upto_region 8 with (first
    | ((with_reducible show wpList _ _ _ _ _ _); refine wpList_load_row (o := ⟨some 67, _, _, _, _, _⟩) rfl _ (.tmp 2) rfl w.heap.size rfl _ _ _ _ (E4.out.bx _ _ _ (.tail _ (.tail _ (.tail _ (.head _))))) Try.underlying30 rfl IN.out ?_)
    | ((with_reducible show wpList _ _ _ _ _ _); refine wpList_store_new rfl rfl _ (.tmp 9) (.tmp 67) rfl _ _ cs _ rfl rfl IN.out SZ.out ONE.out ?_))
  -- u
  have hs5 := E4.out.st cs L (.tail _ (.head _))
  have hm5 := E4.out.mn ms M (.head _)
  obtain ⟨UA0, Uc0, UA1, Uc1, UA, Uc, hcs, u0, u1, u2⟩ := hs5
  obtain ⟨MB, mb, hmb, um⟩ := hm5
  have hbx : (w5.alloc (.cells cs 30)).heap[w5.heap.size]? = some (.cells (L.cells UA0 Uc0 UA1 Uc1 UA Uc) 30 (0, 0)) := by rw [← hcs]; exact heap_alloc_new _ _
  have hb6 : Below w5.heap.size w5 (w5.alloc (.cells cs 30)) := (Below.refl _ _).alloc (Nat.le_refl _) _
  have U0 := Lib.hid ((u0.imp (P' := fun b => b ≠ w5.heap.size) (fun b h _ => Nat.ne_of_lt h)).below hb6)
  have U1 := Lib.hid ((u1.imp (P' := fun b => b ≠ w5.heap.size) (fun b h _ => Nat.ne_of_lt h)).below hb6)
  have UM := Lib.hid ((um.imp (P' := fun b => b ≠ w5.heap.size) (fun b h _ => Nat.ne_of_lt h)).below hb6)
  have US : Hid (IsSt (w5.alloc (.cells cs 30)) (fun b => b ≠ w5.heap.size) cs L) := Lib.hid (((E4.out.st cs L (.tail _ (.head _))).imp (P' := fun b => b ≠ w5.heap.size) (fun b h _ => Nat.ne_of_lt h)).below hb6)
  have UT : Hid (IsSt (w5.alloc (.cells cs 30)) (fun b => b ≠ w5.heap.size) c1 (L.admitted M)) := Lib.hid (((E4.out.st c1 _ (.head _)).imp (P' := fun b => b ≠ w5.heap.size) (fun b h _ => Nat.ne_of_lt h)).below hb6)
  have UMM : Hid (IsMan (w5.alloc (.cells cs 30)) (fun b => b ≠ w5.heap.size) ms M) := Lib.hid (((E4.out.mn ms M (.head _)).imp (P' := fun b => b ≠ w5.heap.size) (fun b h _ => Nat.ne_of_lt h)).below hb6)
  have B5 := Lib.hid E4.out.b
  have HBX := Lib.hid hbx
  have m0 : (w5.alloc (.cells cs 30)).cell? ⟨w.heap.size + 1, 0, none⟩ = some (.int .u32 (M.s : Int)) := (E5.out.cell (.tail _ (.tail _ (.tail _ (.head _)))) 0).trans (by rw [hmb]; rfl)
  have m1 : (w5.alloc (.cells cs 30)).cell? ⟨w.heap.size + 1, 1, none⟩ = some (.int .u32 (M.v : Int)) := (E5.out.cell (.tail _ (.tail _ (.tail _ (.head _)))) 1).trans (by rw [hmb]; rfl)
  have m2 : (w5.alloc (.cells cs 30)).cell? ⟨w.heap.size + 1, 2, none⟩ = some (.int .i64 M.l) := (E5.out.cell (.tail _ (.tail _ (.tail _ (.head _)))) 2).trans (by rw [hmb]; rfl)
  have m3 : (w5.alloc (.cells cs 30)).cell? ⟨w.heap.size + 1, 3, none⟩ = some (.int .i64 M.z) := (E5.out.cell (.tail _ (.tail _ (.tail _ (.head _)))) 3).trans (by rw [hmb]; rfl)
  have m4 : (w5.alloc (.cells cs 30)).cell? ⟨w.heap.size + 1, 4, none⟩ = some (.int .i64 M.p) := (E5.out.cell (.tail _ (.tail _ (.tail _ (.head _)))) 4).trans (by rw [hmb]; rfl)
  have m5 : (w5.alloc (.cells cs 30)).cell? ⟨w.heap.size + 1, 5, none⟩ = some (.slice MB M.h.length mb) := (E5.out.cell (.tail _ (.tail _ (.tail _ (.head _)))) 5).trans (by rw [hmb]; rfl)
  have s3 : (w5.alloc (.cells cs 30)).cell? ⟨w.heap.size, 3, none⟩ = some (.int .u32 (L.gen : Int)) := (E5.out.cell (.tail _ (.tail _ (.tail _ (.tail _ (.head _))))) 3).trans CS3.out
  have hw5 : w.heap.size + 1 < w5.heap.size := (Array.getElem?_eq_some_iff.1 (E4.out.bx _ _ _ (.tail _ (.tail _ (.head _))))).1
  have uu10 : (w5.alloc (.cells cs 30)).cell? ⟨w5.heap.size, 10, none⟩ = some (.bool L.on) := by rw [cell_of_row _ _ 10 _ _ (0, 0) hbx]; rfl
  have uu11 : (w5.alloc (.cells cs 30)).cell? ⟨w5.heap.size, 11, none⟩ = some (.int .u32 (L.m.s : Int)) := by rw [cell_of_row _ _ 11 _ _ (0, 0) hbx]; rfl
  have uu12 : (w5.alloc (.cells cs 30)).cell? ⟨w5.heap.size, 12, none⟩ = some (.int .u32 (L.m.v : Int)) := by rw [cell_of_row _ _ 12 _ _ (0, 0) hbx]; rfl
  have uu13 : (w5.alloc (.cells cs 30)).cell? ⟨w5.heap.size, 13, none⟩ = some (.int .i64 L.m.l) := by rw [cell_of_row _ _ 13 _ _ (0, 0) hbx]; rfl
  have uu14 : (w5.alloc (.cells cs 30)).cell? ⟨w5.heap.size, 14, none⟩ = some (.int .i64 L.m.z) := by rw [cell_of_row _ _ 14 _ _ (0, 0) hbx]; rfl
  have uu15 : (w5.alloc (.cells cs 30)).cell? ⟨w5.heap.size, 15, none⟩ = some (.int .i64 L.m.p) := by rw [cell_of_row _ _ 15 _ _ (0, 0) hbx]; rfl
  have uu16 : (w5.alloc (.cells cs 30)).cell? ⟨w5.heap.size, 16, none⟩ = some (.slice UA L.m.h.length Uc) := by rw [cell_of_row _ _ 16 _ _ (0, 0) hbx]; rfl
  have uu3 : (w5.alloc (.cells cs 30)).cell? ⟨w5.heap.size, 3, none⟩ = some (.int .u32 (L.gen : Int)) := by rw [cell_of_row _ _ 3 _ _ (0, 0) hbx]; rfl
  have z3 := frozen_of_row (w5.alloc (.cells cs 30)) w5.heap.size 3 _ _ hbx
  have z10 := frozen_of_row (w5.alloc (.cells cs 30)) w5.heap.size 10 _ _ hbx
  have z11 := frozen_of_row (w5.alloc (.cells cs 30)) w5.heap.size 11 _ _ hbx
  have z12 := frozen_of_row (w5.alloc (.cells cs 30)) w5.heap.size 12 _ _ hbx
  have z13 := frozen_of_row (w5.alloc (.cells cs 30)) w5.heap.size 13 _ _ hbx
  have z14 := frozen_of_row (w5.alloc (.cells cs 30)) w5.heap.size 14 _ _ hbx
  have z15 := frozen_of_row (w5.alloc (.cells cs 30)) w5.heap.size 15 _ _ hbx
  have z16 := frozen_of_row (w5.alloc (.cells cs 30)) w5.heap.size 16 _ _ hbx
  have HWR : IntKind.u32.wrap ((L.gen : Int) + 1) = ((L.gen + 1 : Nat) : Int) := by have := HGEN.out; rw [IntKind.wrap_u32]; omega
  have EA := Lib.hid E5.out
  have LTB : Hid (∀ g c t, (g, c, t) ∈ ([(w2.heap.size, c1, 30), (w.heap.size + 1, ms, 28), (w.heap.size, cs, 30)] : List (Nat × Array Value × TypeId)) → g < w5.heap.size) := Lib.hid (fun g c t hm => (Array.getElem?_eq_some_iff.1 (E4.out.bx g c t (.tail _ hm))).1)
  clear E5 E4 hbx hb6 u0 u1 u2 um hcs hmb HSS HMM
  generalize w5.alloc (.cells cs 30) = w6 at *
  go_cut [9] (fun s9 wx => s9 = .pointer (some ⟨w5.heap.size, 0, none⟩) ∧ Hid (wx = (((((((((w6.setCell ⟨w5.heap.size, 10, none⟩ (.bool true)).setCell ⟨w5.heap.size, 11, none⟩ (.int .u32 (M.s : Int))).setCell ⟨w5.heap.size, 12, none⟩ (.int .u32 (M.v : Int))).setCell ⟨w5.heap.size, 13, none⟩ (.int .i64 M.l)).setCell ⟨w5.heap.size, 14, none⟩ (.int .i64 M.z)).setCell ⟨w5.heap.size, 15, none⟩ (.int .i64 M.p)).setCell ⟨w5.heap.size, 16, none⟩ (.slice MB M.h.length mb)).setCell ⟨w5.heap.size, 3, none⟩ (.int .u32 ((L.gen : Int) + 1))).drew)))
  case first =>
    go_region
    all_goals (go_wp2_with fail; go_meet; exact ⟨rfl, Lib.hid rfl⟩)
  case rest =>
    obtain ⟨rfl, hwx⟩ := hcut
    have K8 : Hid (∀ b, b ≠ w5.heap.size → wc.heap[b]? = w6.heap[b]?) := Lib.hid (fun b h => by rw [hwx.out]; exact keep8 h _ _ _ _ _ _ _ _)
    have X8 : Hid (wc.heap[w5.heap.size]? = some (.cells ((L.admitted M).cells UA0 Uc0 UA1 Uc1 MB mb) 30 (0, 0))) := Lib.hid (by rw [hwx.out]; exact set8d HBX.out _ _ _ _ _ _ _ _)
    have S8 : Hid (wc.heap.size = w6.heap.size) := Lib.hid (by rw [hwx.out, drew_heap]; simp)
    have B8 : Hid (Below w.heap.size w wc) := Lib.hid (by
      rw [hwx.out]
      have hg : w.heap.size ≤ w5.heap.size := by omega
      exact ((((((((EA.out.b.setCell hg _).setCell hg _).setCell hg _).setCell hg _).setCell hg _).setCell hg _).setCell hg _).setCell hg _).drew)
    have HW5 := Lib.hid hw5
    clear hwx m0 m1 m2 m3 m4 m5 s3 hw5 uu10 uu11 uu12 uu13 uu14 uu15 uu16 uu3 z3 z10 z11 z12 z13 z14 z15 z16 HWR
    obtain ⟨wC, rfl⟩ : ∃ x : World, x = wc := ⟨_, rfl⟩
    obtain ⟨cu, hcu⟩ : ∃ cu, (L.admitted M).cells UA0 Uc0 UA1 Uc1 MB mb = cu := ⟨_, rfl⟩
    have KR : ∀ {A : Option Addr} {n : Nat} {xs : List Value}, RowP w6 (fun b => b ≠ w5.heap.size) A n xs → RowP wC (fun b => b ≠ w5.heap.size) A n xs := fun h => h.keep (by rw [S8.out]; exact Nat.le_refl _) fun b h _ => K8.out b h
    have SU : Hid (IsSt wC (fun b => b ≠ w5.heap.size) cu (L.admitted M)) := Lib.hid ⟨UA0, Uc0, UA1, Uc1, MB, mb, hcu.symm, KR U0.out, KR U1.out, KR UM.out⟩
    rw [hcu] at X8
    have EC : Hid (Env w wC ((w5.heap.size, cu, 30) :: [(w2.heap.size, c1, 30), (w.heap.size + 1, ms, 28), (w.heap.size, cs, 30)]) [(cu, L.admitted M), (c1, L.admitted M), (cs, L)] [(ms, M)]) := Lib.hid (by
      have ks : ∀ {cs : Array Value} {L : LSt}, IsSt w6 (fun b => b ≠ w5.heap.size) cs L → IsSt wC (fun _ => True) cs L := fun h => (h.keep (by rw [S8.out]; exact Nat.le_refl _) fun b h _ => K8.out b h).imp fun _ _ _ => trivial
      refine ⟨B8.out, fun g c t hm => ?_, fun c K hm => ?_, fun c K hm => ?_⟩
      · rcases List.mem_cons.1 hm with e | hm
        · injection e with e1 e2; injection e2 with e2 e3; subst e1 e2 e3; exact X8.out
        have hm : (g, c, t) ∈ [(w2.heap.size, c1, 30), (w.heap.size + 1, ms, 28), (w.heap.size, cs, 30)] := hm
        exact (K8.out g (Nat.ne_of_lt (LTB.out g c t hm))).trans (EA.out.bx g c t (.tail _ (.tail _ hm)))
      · rcases List.mem_cons.1 hm with e | hm
        · injection e with e1 e2; subst e1 e2; exact SU.out.imp fun _ _ _ => trivial
        rcases List.mem_cons.1 hm with e | hm
        · injection e with e1 e2; subst e1 e2; exact ks UT.out
        rcases List.mem_cons.1 hm with e | hm
        · injection e with e1 e2; subst e1 e2; exact ks US.out
        · cases hm
      · rcases List.mem_cons.1 hm with e | hm
        · injection e with e1 e2; subst e1 e2
          exact (UMM.out.keep (by rw [S8.out]; exact Nat.le_refl _) fun b h _ => K8.out b h).imp fun _ _ _ => trivial
        · cases hm)
    have IU := Lib.hid SU.out.inf
    clear KR hcu U0 U1 UM US UT UMM SU EA B5 HBX K8 X8 S8 B8
    go_upto_region 9 with fail
    have HE : Hid (∀ W, Below wC.heap.size wC W → Env w W ((w5.heap.size, cu, 30) :: [(w2.heap.size, c1, 30), (w.heap.size + 1, ms, 28), (w.heap.size, cs, 30)]) [(cu, L.admitted M), (c1, L.admitted M), (cs, L)] [(ms, M)]) := Lib.hid (fun W hW => EC.out.below hW)
    have FC : ∀ {k : Nat} {v : Value}, cs[k]? = some v → ∀ W, Below wC.heap.size wC W → W.cell? ⟨w.heap.size, k, none⟩ = some v := fun h W hW => ((HE.out W hW).cell (.tail _ (.tail _ (.tail _ (.head _)))) _).trans h
    have F31 : Hid (∀ W, Below wC.heap.size wC W → W.cell? ⟨w.heap.size + 1, 1, none⟩ = some (.int .u32 (M.v : Int))) := Lib.hid (fun W hW => ((HE.out W hW).cell (.tail _ (.tail _ (.head _))) 1).trans HM1.out)
    have F22 := Lib.hid (FC CS2.out)
    have F20 := Lib.hid (FC CS0.out)
    have F2o := Lib.hid (FC CS10.out)
    have F2v := Lib.hid (FC CS12.out)
    have F23 := Lib.hid (FC CS3.out)
    have FA0 := Lib.hid (FC CS4.out)
    have FA1 := Lib.hid (FC CS7.out)
    have F53 : Hid (∀ W, Below wC.heap.size wC W → W.cell? ⟨w2.heap.size, 3, none⟩ = some (.int .u32 ((L.gen + 1 : Nat) : Int))) := Lib.hid (fun W hW => ((HE.out W hW).cell (.tail _ (.head _)) 3).trans C13.out)
    have HEQ : Hid ((L.admitted M).eqb (L.admitted M) = true) := Lib.hid (eqb_refl _)
    obtain ⟨G1, hG1⟩ : ∃ G1, L.gen + 1 = G1 := ⟨_, rfl⟩
    have HV4 : Hid ((L.gen : Int) < (G1 : Int)) := Lib.hid (by omega)
    rw [hG1] at F53
    have HV1 : Hid ((L.flo : Int) < (M.v : Int)) := Lib.hid (by have := N1.out; omega)
    generalize L.admitted M = T at *
    obtain ⟨act, ha⟩ : ∃ a, L.act = a := ⟨_, rfl⟩
    obtain ⟨on, ho⟩ : ∃ o, L.on = o := ⟨_, rfl⟩
    rw [ha] at F20 HACT N2
    rw [ho] at F2o N3
    clear FC hG1 ha ho CS0 CS1 CS2 CS3 CS4 CS7 CS10 CS12 C13 N1 HGEN HM1
    rcases HACT.out with rfl | rfl
    · have HV2 : Hid ((L.v0 : Int) < (M.v : Int)) := Lib.hid (by have := N2.out; rw [if_pos rfl] at this; omega)
      have FAV := FA0
      clear FA0 FA1 HACT N2
      cases on with
      | true =>
        have HV3 : Hid ((L.m.v : Int) < (M.v : Int)) := Lib.hid (by have := N3.out rfl; omega)
        refine wp_region_noPanic ?_
        refine wp_region_held_drew (S := (fun W => Below (wC.heap.size) wC W)) (by kernel_rfl) (Below.refl _ _).drew (fun hH0 => ?_)
        have hH0 : Below (wC.heap.size) wC wC.drew := hH0
        generalize wC.drew = wd10000 at *
        refine wpAnyH_take (i := 0) (oi := { dst := some 75, op := Op.load 30 (Operand.tmp 5), type := 30, pos := "law.go:48", after := #[], guard := none }) (v := .agg c1) rfl (by kernel_rfl) (by kernel_rfl) (by kernel_rfl) (fun _ _ _ h => h) (yields_row (by rfl) _ _ rfl w2.heap.size rfl _ _ _ _ (fun W hW => (HE.out W hW).bx _ _ _ (.tail _ (.head _))) Try.underlying30 rfl I1.out) hH0 ?tkr10001
        try simp only [Act.put, List.setIfInBounds_toArray, List.set_cons_zero, List.set_cons_succ]
        refine wpAnyH_ready (rs := [1]) (by kernel_rfl) (by simp) ?_
        refine AllReadyH.cons (o := { dst := some 76, op := Op.call { callee := Callee.value (Operand.func 17), args := #[Operand.tmp 75], argTypes := #[30] }, type := 4, pos := "law.go:48", after := #[{ on := 0, ground := Ground.data }], guard := none }) rfl (fun K hK => ?_) AllReadyH.nil
        go_simp
        refine (mayS ((HE.out wd10000 (hH0)).st _ _ (.tail _ (.head _)))).mono ?_
        rintro e' wn10002 ⟨rfl, hb10002⟩
        rw [HMAY.out]
        go_simp
        have hS10002 : Below (wC.heap.size) wC wn10002 := (hH0).trans (hb10002.mono (hH0).size)
        refine hK.out _ _ hS10002 (fun hH10002 => ?_)
        have hH10002 : Below (wC.heap.size) wC wn10002 := hH10002
        clear hK K hS10002
        try simp only [Act.put, List.setIfInBounds_toArray, List.set_cons_zero, List.set_cons_succ]
        refine wpAnyH_take (i := 2) (oi := { dst := some 77, op := Op.move (Operand.tmp 76), type := 4, pos := "law.go:48", after := #[{ on := 1, ground := Ground.data }, { on := 1, ground := Ground.chain }], guard := none }) (v := ?tkv10003) rfl (by kernel_rfl) (by kernel_rfl) (by kernel_rfl) (fun _ _ _ h => h) (Or.inl ⟨by rfl, ?tky10003⟩) hH10002 ?tkr10003
        case tky10003 => (intro w' hSw; clear hSw; go_simp; try with_reducible rfl)
        try simp only [Act.put, List.setIfInBounds_toArray, List.set_cons_zero, List.set_cons_succ]
        refine wpAnyH_take (i := 3) (oi := { dst := some 78, op := Op.load 30 (Operand.tmp 5), type := 30, pos := "law.go:48", after := #[{ on := 2, ground := Ground.guard }], guard := some (2, true) }) (v := .agg c1) rfl (by kernel_rfl) (by kernel_rfl) (by kernel_rfl) (fun _ _ _ h => h) (yields_row (by rfl) _ _ rfl w2.heap.size rfl _ _ _ _ (fun W hW => (HE.out W hW).bx _ _ _ (.tail _ (.head _))) Try.underlying30 rfl I1.out) hH10002 ?tkr10004
        try simp only [Act.put, List.setIfInBounds_toArray, List.set_cons_zero, List.set_cons_succ]
        refine wpAnyH_take (i := 4) (oi := { dst := some 79, op := Op.load 30 (Operand.tmp 9), type := 30, pos := "law.go:48", after := #[{ on := 2, ground := Ground.guard }], guard := some (2, true) }) (v := .agg cu) rfl (by kernel_rfl) (by kernel_rfl) (by kernel_rfl) (fun _ _ _ h => h) (yields_row (by rfl) _ _ rfl w5.heap.size rfl _ _ _ _ (fun W hW => (HE.out W hW).bx _ _ _ (.head _)) Try.underlying30 rfl IU.out) hH10002 ?tkr10005
        try simp only [Act.put, List.setIfInBounds_toArray, List.set_cons_zero, List.set_cons_succ]
        refine wpAnyH_ready (rs := [5]) (by kernel_rfl) (by simp) ?_
        refine AllReadyH.cons (o := { dst := some 80, op := Op.call { callee := Callee.value (Operand.func 19), args := #[Operand.tmp 78, Operand.tmp 79], argTypes := #[30, 30] }, type := 4, pos := "law.go:48", after := #[{ on := 3, ground := Ground.data }, { on := 4, ground := Ground.data }, { on := 2, ground := Ground.chain }, { on := 2, ground := Ground.guard }], guard := some (2, true) }) rfl (fun K hK => ?_) AllReadyH.nil
        go_simp
        refine (sameS ((HE.out wn10002 (hH10002)).st _ _ (.tail _ (.head _))) ((HE.out wn10002 (hH10002)).st _ _ (.head _))).mono ?_
        rintro e' wn10006 ⟨rfl, hb10006⟩
        rw [HEQ.out]
        go_simp
        have hS10006 : Below (wC.heap.size) wC wn10006 := (hH10002).trans (hb10006.mono (hH10002).size)
        refine hK.out _ _ hS10006 (fun hH10006 => ?_)
        have hH10006 : Below (wC.heap.size) wC wn10006 := hH10006
        clear hK K hS10006
        try simp only [Act.put, List.setIfInBounds_toArray, List.set_cons_zero, List.set_cons_succ]
        refine wpAnyH_take (i := 6) (oi := { dst := some 81, op := Op.pick (Operand.tmp 77) (Operand.tmp 80) (Operand.const (Value.bool false)), type := 4, pos := "law.go:48", after := #[{ on := 2, ground := Ground.data }, { on := 5, ground := Ground.data }], guard := none }) (v := ?tkv10007) rfl (by kernel_rfl) (by kernel_rfl) (by kernel_rfl) (fun _ _ _ h => h) (Or.inl ⟨by rfl, ?tky10007⟩) hH10006 ?tkr10007
        case tky10007 => (intro w' hSw; clear hSw; go_simp; try with_reducible rfl)
        try simp only [Act.put, List.setIfInBounds_toArray, List.set_cons_zero, List.set_cons_succ]
        refine wpAnyH_take (i := 7) (oi := { dst := some 82, op := Op.move (Operand.tmp 81), type := 4, pos := "law.go:48", after := #[{ on := 6, ground := Ground.data }, { on := 5, ground := Ground.chain }], guard := none }) (v := ?tkv10008) rfl (by kernel_rfl) (by kernel_rfl) (by kernel_rfl) (fun _ _ _ h => h) (Or.inl ⟨by rfl, ?tky10008⟩) hH10006 ?tkr10008
        case tky10008 => (intro w' hSw; clear hSw; go_simp; try with_reducible rfl)
        try simp only [Act.put, List.setIfInBounds_toArray, List.set_cons_zero, List.set_cons_succ]
        refine wpAnyH_take (i := 8) (oi := { dst := some 83, op := Op.fieldAddr 28 (Operand.tmp 3) 1, type := 0, pos := "law.go:48", after := #[{ on := 7, ground := Ground.guard }], guard := some (7, true) }) (v := ?tkv10009) rfl (by kernel_rfl) (by kernel_rfl) (by kernel_rfl) (fun _ _ _ h => h) (Or.inl ⟨by rfl, ?tky10009⟩) hH10006 ?tkr10009
        case tky10009 => (intro w' hSw; clear hSw; go_simp; try with_reducible rfl)
        try simp only [Act.put, List.setIfInBounds_toArray, List.set_cons_zero, List.set_cons_succ]
        refine wpAnyH_take (i := 9) (oi := { dst := some 84, op := Op.load 22 (Operand.tmp 83), type := 22, pos := "law.go:48", after := #[{ on := 8, ground := Ground.data }, { on := 7, ground := Ground.guard }], guard := some (7, true) }) (v := ?tkv10010) rfl (by kernel_rfl) (by kernel_rfl) (by kernel_rfl) (fun _ _ _ h => h) (Or.inl ⟨by rfl, ?tky10010⟩) hH10006 ?tkr10010
        case tky10010 => (intro w' hSw; have z0 := F31.out _ hSw; have z1 := F22.out _ hSw; have z2 := F20.out _ hSw; have z3 := FAV.out _ hSw; have z4 := F2o.out _ hSw; have z5 := F2v.out _ hSw; have z6 := F53.out _ hSw; have z7 := F23.out _ hSw; clear hSw; go_simp; try with_reducible rfl)
        try simp only [Act.put, List.setIfInBounds_toArray, List.set_cons_zero, List.set_cons_succ]
        refine wpAnyH_take (i := 10) (oi := { dst := some 85, op := Op.fieldAddr 30 (Operand.tmp 2) 2, type := 0, pos := "law.go:48", after := #[{ on := 7, ground := Ground.guard }], guard := some (7, true) }) (v := ?tkv10011) rfl (by kernel_rfl) (by kernel_rfl) (by kernel_rfl) (fun _ _ _ h => h) (Or.inl ⟨by rfl, ?tky10011⟩) hH10006 ?tkr10011
        case tky10011 => (intro w' hSw; clear hSw; go_simp; try with_reducible rfl)
        try simp only [Act.put, List.setIfInBounds_toArray, List.set_cons_zero, List.set_cons_succ]
        refine wpAnyH_take (i := 11) (oi := { dst := some 86, op := Op.load 22 (Operand.tmp 85), type := 22, pos := "law.go:48", after := #[{ on := 10, ground := Ground.data }, { on := 7, ground := Ground.guard }], guard := some (7, true) }) (v := ?tkv10012) rfl (by kernel_rfl) (by kernel_rfl) (by kernel_rfl) (fun _ _ _ h => h) (Or.inl ⟨by rfl, ?tky10012⟩) hH10006 ?tkr10012
        case tky10012 => (intro w' hSw; have z0 := F31.out _ hSw; have z1 := F22.out _ hSw; have z2 := F20.out _ hSw; have z3 := FAV.out _ hSw; have z4 := F2o.out _ hSw; have z5 := F2v.out _ hSw; have z6 := F53.out _ hSw; have z7 := F23.out _ hSw; clear hSw; go_simp; try with_reducible rfl)
        try simp only [Act.put, List.setIfInBounds_toArray, List.set_cons_zero, List.set_cons_succ]
        refine wpAnyH_take (i := 12) (oi := { dst := some 87, op := Op.binOp BinOp.gtr 22 (Operand.tmp 84) (Operand.tmp 86) 22, type := 4, pos := "law.go:48", after := #[{ on := 9, ground := Ground.data }, { on := 11, ground := Ground.data }, { on := 7, ground := Ground.guard }], guard := some (7, true) }) (v := ?tkv10013) rfl (by kernel_rfl) (by kernel_rfl) (by kernel_rfl) (fun _ _ _ h => h) (Or.inl ⟨by rfl, ?tky10013⟩) hH10006 ?tkr10013
        case tky10013 => (intro w' hSw; have q1 := HV1.out; clear hSw; go_simp; try with_reducible rfl)
        try simp only [Act.put, List.setIfInBounds_toArray, List.set_cons_zero, List.set_cons_succ]
        refine wpAnyH_take (i := 13) (oi := { dst := some 88, op := Op.pick (Operand.tmp 82) (Operand.tmp 87) (Operand.const (Value.bool false)), type := 4, pos := "law.go:48", after := #[{ on := 7, ground := Ground.data }, { on := 12, ground := Ground.data }], guard := none }) (v := ?tkv10014) rfl (by kernel_rfl) (by kernel_rfl) (by kernel_rfl) (fun _ _ _ h => h) (Or.inl ⟨by rfl, ?tky10014⟩) hH10006 ?tkr10014
        case tky10014 => (intro w' hSw; clear hSw; go_simp; try with_reducible rfl)
        try simp only [Act.put, List.setIfInBounds_toArray, List.set_cons_zero, List.set_cons_succ]
        refine wpAnyH_take (i := 14) (oi := { dst := some 89, op := Op.move (Operand.tmp 88), type := 4, pos := "law.go:48", after := #[{ on := 13, ground := Ground.data }, { on := 7, ground := Ground.chain }], guard := none }) (v := ?tkv10015) rfl (by kernel_rfl) (by kernel_rfl) (by kernel_rfl) (fun _ _ _ h => h) (Or.inl ⟨by rfl, ?tky10015⟩) hH10006 ?tkr10015
        case tky10015 => (intro w' hSw; clear hSw; go_simp; try with_reducible rfl)
        try simp only [Act.put, List.setIfInBounds_toArray, List.set_cons_zero, List.set_cons_succ]
        refine wpAnyH_take (i := 15) (oi := { dst := some 90, op := Op.fieldAddr 28 (Operand.tmp 3) 1, type := 0, pos := "law.go:48", after := #[{ on := 14, ground := Ground.guard }], guard := some (14, true) }) (v := ?tkv10016) rfl (by kernel_rfl) (by kernel_rfl) (by kernel_rfl) (fun _ _ _ h => h) (Or.inl ⟨by rfl, ?tky10016⟩) hH10006 ?tkr10016
        case tky10016 => (intro w' hSw; clear hSw; go_simp; try with_reducible rfl)
        try simp only [Act.put, List.setIfInBounds_toArray, List.set_cons_zero, List.set_cons_succ]
        refine wpAnyH_take (i := 16) (oi := { dst := some 91, op := Op.load 22 (Operand.tmp 90), type := 22, pos := "law.go:48", after := #[{ on := 15, ground := Ground.data }, { on := 14, ground := Ground.guard }], guard := some (14, true) }) (v := ?tkv10017) rfl (by kernel_rfl) (by kernel_rfl) (by kernel_rfl) (fun _ _ _ h => h) (Or.inl ⟨by rfl, ?tky10017⟩) hH10006 ?tkr10017
        case tky10017 => (intro w' hSw; have z0 := F31.out _ hSw; have z1 := F22.out _ hSw; have z2 := F20.out _ hSw; have z3 := FAV.out _ hSw; have z4 := F2o.out _ hSw; have z5 := F2v.out _ hSw; have z6 := F53.out _ hSw; have z7 := F23.out _ hSw; clear hSw; go_simp; try with_reducible rfl)
        try simp only [Act.put, List.setIfInBounds_toArray, List.set_cons_zero, List.set_cons_succ]
        refine wpAnyH_take (i := 17) (oi := { dst := some 92, op := Op.fieldAddr 30 (Operand.tmp 2) 0, type := 0, pos := "law.go:48", after := #[{ on := 14, ground := Ground.guard }], guard := some (14, true) }) (v := ?tkv10018) rfl (by kernel_rfl) (by kernel_rfl) (by kernel_rfl) (fun _ _ _ h => h) (Or.inl ⟨by rfl, ?tky10018⟩) hH10006 ?tkr10018
        case tky10018 => (intro w' hSw; clear hSw; go_simp; try with_reducible rfl)
        try simp only [Act.put, List.setIfInBounds_toArray, List.set_cons_zero, List.set_cons_succ]
        refine wpAnyH_take (i := 18) (oi := { dst := some 93, op := Op.load 3 (Operand.tmp 92), type := 3, pos := "law.go:48", after := #[{ on := 17, ground := Ground.data }, { on := 14, ground := Ground.guard }], guard := some (14, true) }) (v := ?tkv10019) rfl (by kernel_rfl) (by kernel_rfl) (by kernel_rfl) (fun _ _ _ h => h) (Or.inl ⟨by rfl, ?tky10019⟩) hH10006 ?tkr10019
        case tky10019 => (intro w' hSw; have z0 := F31.out _ hSw; have z1 := F22.out _ hSw; have z2 := F20.out _ hSw; have z3 := FAV.out _ hSw; have z4 := F2o.out _ hSw; have z5 := F2v.out _ hSw; have z6 := F53.out _ hSw; have z7 := F23.out _ hSw; clear hSw; go_simp; try with_reducible rfl)
        try simp only [Act.put, List.setIfInBounds_toArray, List.set_cons_zero, List.set_cons_succ]
        refine wpAnyH_take (i := 19) (oi := { dst := some 94, op := Op.fieldAddr 30 (Operand.tmp 2) 4, type := 0, pos := "law.go:48", after := #[{ on := 14, ground := Ground.guard }], guard := some (14, true) }) (v := ?tkv10020) rfl (by kernel_rfl) (by kernel_rfl) (by kernel_rfl) (fun _ _ _ h => h) (Or.inl ⟨by rfl, ?tky10020⟩) hH10006 ?tkr10020
        case tky10020 => (intro w' hSw; clear hSw; go_simp; try with_reducible rfl)
        try simp only [Act.put, List.setIfInBounds_toArray, List.set_cons_zero, List.set_cons_succ]
        refine wpAnyH_take (i := 20) (oi := { dst := some 95, op := Op.indexAddr 26 (Operand.tmp 94) (Operand.tmp 93), type := 0, pos := "law.go:48", after := #[{ on := 19, ground := Ground.data }, { on := 18, ground := Ground.data }, { on := 14, ground := Ground.guard }], guard := some (14, true) }) (v := ?tkv10021) rfl (by kernel_rfl) (by kernel_rfl) (by kernel_rfl) (fun _ _ _ h => h) (Or.inl ⟨by rfl, ?tky10021⟩) hH10006 ?tkr10021
        case tky10021 => (intro w' hSw; clear hSw; go_simp; try with_reducible rfl)
        try simp only [Act.put, List.setIfInBounds_toArray, List.set_cons_zero, List.set_cons_succ]
        refine wpAnyH_take (i := 21) (oi := { dst := some 96, op := Op.fieldAddr 25 (Operand.tmp 95) 0, type := 0, pos := "law.go:48", after := #[{ on := 20, ground := Ground.data }, { on := 14, ground := Ground.guard }], guard := some (14, true) }) (v := ?tkv10022) rfl (by kernel_rfl) (by kernel_rfl) (by kernel_rfl) (fun _ _ _ h => h) (Or.inl ⟨by rfl, ?tky10022⟩) hH10006 ?tkr10022
        case tky10022 => (intro w' hSw; clear hSw; go_simp; try with_reducible rfl)
        try simp only [Act.put, List.setIfInBounds_toArray, List.set_cons_zero, List.set_cons_succ]
        refine wpAnyH_take (i := 22) (oi := { dst := some 97, op := Op.load 22 (Operand.tmp 96), type := 22, pos := "law.go:48", after := #[{ on := 21, ground := Ground.data }, { on := 14, ground := Ground.guard }], guard := some (14, true) }) (v := ?tkv10023) rfl (by kernel_rfl) (by kernel_rfl) (by kernel_rfl) (fun _ _ _ h => h) (Or.inl ⟨by rfl, ?tky10023⟩) hH10006 ?tkr10023
        case tky10023 => (intro w' hSw; have z0 := F31.out _ hSw; have z1 := F22.out _ hSw; have z2 := F20.out _ hSw; have z3 := FAV.out _ hSw; have z4 := F2o.out _ hSw; have z5 := F2v.out _ hSw; have z6 := F53.out _ hSw; have z7 := F23.out _ hSw; clear hSw; go_simp; try with_reducible rfl)
        try simp only [Act.put, List.setIfInBounds_toArray, List.set_cons_zero, List.set_cons_succ]
        refine wpAnyH_take (i := 23) (oi := { dst := some 98, op := Op.binOp BinOp.gtr 22 (Operand.tmp 91) (Operand.tmp 97) 22, type := 4, pos := "law.go:48", after := #[{ on := 16, ground := Ground.data }, { on := 22, ground := Ground.data }, { on := 14, ground := Ground.guard }], guard := some (14, true) }) (v := ?tkv10024) rfl (by kernel_rfl) (by kernel_rfl) (by kernel_rfl) (fun _ _ _ h => h) (Or.inl ⟨by rfl, ?tky10024⟩) hH10006 ?tkr10024
        case tky10024 => (intro w' hSw; have q1 := HV2.out; clear hSw; go_simp; try with_reducible rfl)
        try simp only [Act.put, List.setIfInBounds_toArray, List.set_cons_zero, List.set_cons_succ]
        refine wpAnyH_take (i := 24) (oi := { dst := some 99, op := Op.pick (Operand.tmp 89) (Operand.tmp 98) (Operand.const (Value.bool false)), type := 4, pos := "law.go:48", after := #[{ on := 14, ground := Ground.data }, { on := 23, ground := Ground.data }], guard := none }) (v := ?tkv10025) rfl (by kernel_rfl) (by kernel_rfl) (by kernel_rfl) (fun _ _ _ h => h) (Or.inl ⟨by rfl, ?tky10025⟩) hH10006 ?tkr10025
        case tky10025 => (intro w' hSw; clear hSw; go_simp; try with_reducible rfl)
        try simp only [Act.put, List.setIfInBounds_toArray, List.set_cons_zero, List.set_cons_succ]
        refine wpAnyH_take (i := 25) (oi := { dst := some 100, op := Op.move (Operand.tmp 99), type := 4, pos := "law.go:48", after := #[{ on := 24, ground := Ground.data }, { on := 14, ground := Ground.chain }], guard := none }) (v := ?tkv10026) rfl (by kernel_rfl) (by kernel_rfl) (by kernel_rfl) (fun _ _ _ h => h) (Or.inl ⟨by rfl, ?tky10026⟩) hH10006 ?tkr10026
        case tky10026 => (intro w' hSw; clear hSw; go_simp; try with_reducible rfl)
        try simp only [Act.put, List.setIfInBounds_toArray, List.set_cons_zero, List.set_cons_succ]
        refine wpAnyH_take (i := 26) (oi := { dst := some 101, op := Op.fieldAddr 30 (Operand.tmp 2) 5, type := 0, pos := "law.go:48", after := #[{ on := 25, ground := Ground.guard }], guard := some (25, true) }) (v := ?tkv10027) rfl (by kernel_rfl) (by kernel_rfl) (by kernel_rfl) (fun _ _ _ h => h) (Or.inl ⟨by rfl, ?tky10027⟩) hH10006 ?tkr10027
        case tky10027 => (intro w' hSw; clear hSw; go_simp; try with_reducible rfl)
        try simp only [Act.put, List.setIfInBounds_toArray, List.set_cons_zero, List.set_cons_succ]
        refine wpAnyH_take (i := 27) (oi := { dst := some 102, op := Op.load 4 (Operand.tmp 101), type := 4, pos := "law.go:48", after := #[{ on := 26, ground := Ground.data }, { on := 25, ground := Ground.guard }], guard := some (25, true) }) (v := ?tkv10028) rfl (by kernel_rfl) (by kernel_rfl) (by kernel_rfl) (fun _ _ _ h => h) (Or.inl ⟨by rfl, ?tky10028⟩) hH10006 ?tkr10028
        case tky10028 => (intro w' hSw; have z0 := F31.out _ hSw; have z1 := F22.out _ hSw; have z2 := F20.out _ hSw; have z3 := FAV.out _ hSw; have z4 := F2o.out _ hSw; have z5 := F2v.out _ hSw; have z6 := F53.out _ hSw; have z7 := F23.out _ hSw; clear hSw; go_simp; try with_reducible rfl)
        try simp only [Act.put, List.setIfInBounds_toArray, List.set_cons_zero, List.set_cons_succ]
        refine wpAnyH_take (i := 28) (oi := { dst := some 103, op := Op.unOp UnOp.not 4 (Operand.tmp 102), type := 4, pos := "law.go:48", after := #[{ on := 27, ground := Ground.data }, { on := 25, ground := Ground.guard }], guard := some (25, true) }) (v := ?tkv10029) rfl (by kernel_rfl) (by kernel_rfl) (by kernel_rfl) (fun _ _ _ h => h) (Or.inl ⟨by rfl, ?tky10029⟩) hH10006 ?tkr10029
        case tky10029 => (intro w' hSw; clear hSw; go_simp; try with_reducible rfl)
        try simp only [Act.put, List.setIfInBounds_toArray, List.set_cons_zero, List.set_cons_succ]
        refine wpAnyH_take (i := 29) (oi := { dst := some 104, op := Op.move (Operand.tmp 103), type := 4, pos := "law.go:48", after := #[{ on := 28, ground := Ground.data }, { on := 25, ground := Ground.chain }, { on := 25, ground := Ground.guard }], guard := some (25, true) }) (v := ?tkv10030) rfl (by kernel_rfl) (by kernel_rfl) (by kernel_rfl) (fun _ _ _ h => h) (Or.inl ⟨by rfl, ?tky10030⟩) hH10006 ?tkr10030
        case tky10030 => (intro w' hSw; clear hSw; go_simp; try with_reducible rfl)
        try simp only [Act.put, List.setIfInBounds_toArray, List.set_cons_zero, List.set_cons_succ]
        refine wpAnyH_take (i := 30) (oi := { dst := some 105, op := Op.fieldAddr 28 (Operand.tmp 3) 1, type := 0, pos := "law.go:48", after := #[{ on := 29, ground := Ground.guard }], guard := some (29, false) }) (v := ?tkv10031) rfl (by kernel_rfl) (by kernel_rfl) (by kernel_rfl) (fun _ _ _ h => h) (Or.inl ⟨by rfl, ?tky10031⟩) hH10006 ?tkr10031
        case tky10031 => (intro w' hSw; clear hSw; go_simp; try with_reducible rfl)
        try simp only [Act.put, List.setIfInBounds_toArray, List.set_cons_zero, List.set_cons_succ]
        refine wpAnyH_take (i := 31) (oi := { dst := some 106, op := Op.load 22 (Operand.tmp 105), type := 22, pos := "law.go:48", after := #[{ on := 30, ground := Ground.data }, { on := 29, ground := Ground.guard }], guard := some (29, false) }) (v := ?tkv10032) rfl (by kernel_rfl) (by kernel_rfl) (by kernel_rfl) (fun _ _ _ h => h) (Or.inl ⟨by rfl, ?tky10032⟩) hH10006 ?tkr10032
        case tky10032 => (intro w' hSw; have z0 := F31.out _ hSw; have z1 := F22.out _ hSw; have z2 := F20.out _ hSw; have z3 := FAV.out _ hSw; have z4 := F2o.out _ hSw; have z5 := F2v.out _ hSw; have z6 := F53.out _ hSw; have z7 := F23.out _ hSw; clear hSw; go_simp; try with_reducible rfl)
        try simp only [Act.put, List.setIfInBounds_toArray, List.set_cons_zero, List.set_cons_succ]
        refine wpAnyH_take (i := 32) (oi := { dst := some 107, op := Op.fieldAddr 30 (Operand.tmp 2) 6, type := 0, pos := "law.go:48", after := #[{ on := 29, ground := Ground.guard }], guard := some (29, false) }) (v := ?tkv10033) rfl (by kernel_rfl) (by kernel_rfl) (by kernel_rfl) (fun _ _ _ h => h) (Or.inl ⟨by rfl, ?tky10033⟩) hH10006 ?tkr10033
        case tky10033 => (intro w' hSw; clear hSw; go_simp; try with_reducible rfl)
        try simp only [Act.put, List.setIfInBounds_toArray, List.set_cons_zero, List.set_cons_succ]
        refine wpAnyH_take (i := 33) (oi := { dst := some 108, op := Op.fieldAddr 28 (Operand.tmp 107) 1, type := 0, pos := "law.go:48", after := #[{ on := 32, ground := Ground.data }, { on := 29, ground := Ground.guard }], guard := some (29, false) }) (v := ?tkv10034) rfl (by kernel_rfl) (by kernel_rfl) (by kernel_rfl) (fun _ _ _ h => h) (Or.inl ⟨by rfl, ?tky10034⟩) hH10006 ?tkr10034
        case tky10034 => (intro w' hSw; clear hSw; go_simp; try with_reducible rfl)
        try simp only [Act.put, List.setIfInBounds_toArray, List.set_cons_zero, List.set_cons_succ]
        refine wpAnyH_take (i := 34) (oi := { dst := some 109, op := Op.load 22 (Operand.tmp 108), type := 22, pos := "law.go:48", after := #[{ on := 33, ground := Ground.data }, { on := 29, ground := Ground.guard }], guard := some (29, false) }) (v := ?tkv10035) rfl (by kernel_rfl) (by kernel_rfl) (by kernel_rfl) (fun _ _ _ h => h) (Or.inl ⟨by rfl, ?tky10035⟩) hH10006 ?tkr10035
        case tky10035 => (intro w' hSw; have z0 := F31.out _ hSw; have z1 := F22.out _ hSw; have z2 := F20.out _ hSw; have z3 := FAV.out _ hSw; have z4 := F2o.out _ hSw; have z5 := F2v.out _ hSw; have z6 := F53.out _ hSw; have z7 := F23.out _ hSw; clear hSw; go_simp; try with_reducible rfl)
        try simp only [Act.put, List.setIfInBounds_toArray, List.set_cons_zero, List.set_cons_succ]
        refine wpAnyH_take (i := 35) (oi := { dst := some 110, op := Op.binOp BinOp.gtr 22 (Operand.tmp 106) (Operand.tmp 109) 22, type := 4, pos := "law.go:48", after := #[{ on := 31, ground := Ground.data }, { on := 34, ground := Ground.data }, { on := 29, ground := Ground.guard }], guard := some (29, false) }) (v := ?tkv10036) rfl (by kernel_rfl) (by kernel_rfl) (by kernel_rfl) (fun _ _ _ h => h) (Or.inl ⟨by rfl, ?tky10036⟩) hH10006 ?tkr10036
        case tky10036 => (intro w' hSw; have q1 := HV3.out; clear hSw; go_simp; try with_reducible rfl)
        try simp only [Act.put, List.setIfInBounds_toArray, List.set_cons_zero, List.set_cons_succ]
        refine wpAnyH_take (i := 36) (oi := { dst := some 111, op := Op.pick (Operand.tmp 104) (Operand.const (Value.bool true)) (Operand.tmp 110), type := 4, pos := "law.go:48", after := #[{ on := 29, ground := Ground.data }, { on := 35, ground := Ground.data }, { on := 25, ground := Ground.guard }], guard := some (25, true) }) (v := ?tkv10037) rfl (by kernel_rfl) (by kernel_rfl) (by kernel_rfl) (fun _ _ _ h => h) (Or.inl ⟨by rfl, ?tky10037⟩) hH10006 ?tkr10037
        case tky10037 => (intro w' hSw; clear hSw; go_simp; try with_reducible rfl)
        try simp only [Act.put, List.setIfInBounds_toArray, List.set_cons_zero, List.set_cons_succ]
        refine wpAnyH_take (i := 37) (oi := { dst := some 112, op := Op.pick (Operand.tmp 100) (Operand.tmp 111) (Operand.const (Value.bool false)), type := 4, pos := "law.go:48", after := #[{ on := 25, ground := Ground.data }, { on := 36, ground := Ground.data }], guard := none }) (v := ?tkv10038) rfl (by kernel_rfl) (by kernel_rfl) (by kernel_rfl) (fun _ _ _ h => h) (Or.inl ⟨by rfl, ?tky10038⟩) hH10006 ?tkr10038
        case tky10038 => (intro w' hSw; clear hSw; go_simp; try with_reducible rfl)
        try simp only [Act.put, List.setIfInBounds_toArray, List.set_cons_zero, List.set_cons_succ]
        refine wpAnyH_take (i := 38) (oi := { dst := some 113, op := Op.move (Operand.tmp 112), type := 4, pos := "law.go:48", after := #[{ on := 37, ground := Ground.data }, { on := 29, ground := Ground.chain }], guard := none }) (v := ?tkv10039) rfl (by kernel_rfl) (by kernel_rfl) (by kernel_rfl) (fun _ _ _ h => h) (Or.inl ⟨by rfl, ?tky10039⟩) hH10006 ?tkr10039
        case tky10039 => (intro w' hSw; clear hSw; go_simp; try with_reducible rfl)
        try simp only [Act.put, List.setIfInBounds_toArray, List.set_cons_zero, List.set_cons_succ]
        refine wpAnyH_take (i := 39) (oi := { dst := some 114, op := Op.fieldAddr 30 (Operand.tmp 5) 3, type := 0, pos := "law.go:48", after := #[{ on := 38, ground := Ground.guard }], guard := some (38, true) }) (v := ?tkv10040) rfl (by kernel_rfl) (by kernel_rfl) (by kernel_rfl) (fun _ _ _ h => h) (Or.inl ⟨by rfl, ?tky10040⟩) hH10006 ?tkr10040
        case tky10040 => (intro w' hSw; clear hSw; go_simp; try with_reducible rfl)
        try simp only [Act.put, List.setIfInBounds_toArray, List.set_cons_zero, List.set_cons_succ]
        refine wpAnyH_take (i := 40) (oi := { dst := some 115, op := Op.load 22 (Operand.tmp 114), type := 22, pos := "law.go:48", after := #[{ on := 39, ground := Ground.data }, { on := 38, ground := Ground.guard }], guard := some (38, true) }) (v := ?tkv10041) rfl (by kernel_rfl) (by kernel_rfl) (by kernel_rfl) (fun _ _ _ h => h) (Or.inl ⟨by rfl, ?tky10041⟩) hH10006 ?tkr10041
        case tky10041 => (intro w' hSw; have z0 := F31.out _ hSw; have z1 := F22.out _ hSw; have z2 := F20.out _ hSw; have z3 := FAV.out _ hSw; have z4 := F2o.out _ hSw; have z5 := F2v.out _ hSw; have z6 := F53.out _ hSw; have z7 := F23.out _ hSw; clear hSw; go_simp; try with_reducible rfl)
        try simp only [Act.put, List.setIfInBounds_toArray, List.set_cons_zero, List.set_cons_succ]
        refine wpAnyH_take (i := 41) (oi := { dst := some 116, op := Op.fieldAddr 30 (Operand.tmp 2) 3, type := 0, pos := "law.go:48", after := #[{ on := 38, ground := Ground.guard }], guard := some (38, true) }) (v := ?tkv10042) rfl (by kernel_rfl) (by kernel_rfl) (by kernel_rfl) (fun _ _ _ h => h) (Or.inl ⟨by rfl, ?tky10042⟩) hH10006 ?tkr10042
        case tky10042 => (intro w' hSw; clear hSw; go_simp; try with_reducible rfl)
        try simp only [Act.put, List.setIfInBounds_toArray, List.set_cons_zero, List.set_cons_succ]
        refine wpAnyH_take (i := 42) (oi := { dst := some 117, op := Op.load 22 (Operand.tmp 116), type := 22, pos := "law.go:48", after := #[{ on := 41, ground := Ground.data }, { on := 38, ground := Ground.guard }], guard := some (38, true) }) (v := ?tkv10043) rfl (by kernel_rfl) (by kernel_rfl) (by kernel_rfl) (fun _ _ _ h => h) (Or.inl ⟨by rfl, ?tky10043⟩) hH10006 ?tkr10043
        case tky10043 => (intro w' hSw; have z0 := F31.out _ hSw; have z1 := F22.out _ hSw; have z2 := F20.out _ hSw; have z3 := FAV.out _ hSw; have z4 := F2o.out _ hSw; have z5 := F2v.out _ hSw; have z6 := F53.out _ hSw; have z7 := F23.out _ hSw; clear hSw; go_simp; try with_reducible rfl)
        try simp only [Act.put, List.setIfInBounds_toArray, List.set_cons_zero, List.set_cons_succ]
        refine wpAnyH_take (i := 43) (oi := { dst := some 118, op := Op.binOp BinOp.gtr 22 (Operand.tmp 115) (Operand.tmp 117) 22, type := 4, pos := "law.go:48", after := #[{ on := 40, ground := Ground.data }, { on := 42, ground := Ground.data }, { on := 38, ground := Ground.guard }], guard := some (38, true) }) (v := ?tkv10044) rfl (by kernel_rfl) (by kernel_rfl) (by kernel_rfl) (fun _ _ _ h => h) (Or.inl ⟨by rfl, ?tky10044⟩) hH10006 ?tkr10044
        case tky10044 => (intro w' hSw; have q1 := HV4.out; clear hSw; go_simp; try with_reducible rfl)
        try simp only [Act.put, List.setIfInBounds_toArray, List.set_cons_zero, List.set_cons_succ]
        refine wpAnyH_take (i := 44) (oi := { dst := some 119, op := Op.pick (Operand.tmp 113) (Operand.tmp 118) (Operand.const (Value.bool false)), type := 4, pos := "law.go:48", after := #[{ on := 38, ground := Ground.data }, { on := 43, ground := Ground.data }], guard := none }) (v := ?tkv10045) rfl (by kernel_rfl) (by kernel_rfl) (by kernel_rfl) (fun _ _ _ h => h) (Or.inl ⟨by rfl, ?tky10045⟩) hH10006 ?tkr10045
        case tky10045 => (intro w' hSw; clear hSw; go_simp; try with_reducible rfl)
        try simp only [Act.put, List.setIfInBounds_toArray, List.set_cons_zero, List.set_cons_succ]
        refine wpAnyH_take (i := 45) (oi := { dst := some 120, op := Op.move (Operand.tmp 119), type := 4, pos := "law.go:48", after := #[{ on := 44, ground := Ground.data }, { on := 38, ground := Ground.chain }], guard := none }) (v := ?tkv10046) rfl (by kernel_rfl) (by kernel_rfl) (by kernel_rfl) (fun _ _ _ h => h) (Or.inl ⟨by rfl, ?tky10046⟩) hH10006 ?tkr10046
        case tky10046 => (intro w' hSw; clear hSw; go_simp; try with_reducible rfl)
        try simp only [Act.put, List.setIfInBounds_toArray, List.set_cons_zero, List.set_cons_succ]
        refine wpAnyH_take (i := 46) (oi := { dst := some 121, op := Op.move (Operand.tmp 8), type := 33, pos := "law.go:48", after := #[{ on := 45, ground := Ground.guard }], guard := some (45, true) }) (v := ?tkv10047) rfl (by kernel_rfl) (by kernel_rfl) (by kernel_rfl) (fun _ _ _ h => h) (Or.inl ⟨by rfl, ?tky10047⟩) hH10006 ?tkr10047
        case tky10047 => (intro w' hSw; clear hSw; go_simp; try with_reducible rfl)
        try simp only [Act.put, List.setIfInBounds_toArray, List.set_cons_zero, List.set_cons_succ]
        refine wpAnyH_take (i := 47) (oi := { dst := some 122, op := Op.binOp BinOp.eql 33 (Operand.tmp 121) (Operand.const (Value.int IntKind.i64 8)) 33, type := 4, pos := "law.go:48", after := #[{ on := 46, ground := Ground.data }, { on := 45, ground := Ground.guard }], guard := some (45, true) }) (v := ?tkv10048) rfl (by kernel_rfl) (by kernel_rfl) (by kernel_rfl) (fun _ _ _ h => h) (Or.inl ⟨by rfl, ?tky10048⟩) hH10006 ?tkr10048
        case tky10048 => (intro w' hSw; clear hSw; go_simp; try with_reducible rfl)
        try simp only [Act.put, List.setIfInBounds_toArray, List.set_cons_zero, List.set_cons_succ]
        refine wpAnyH_take (i := 48) (oi := { dst := some 123, op := Op.pick (Operand.tmp 120) (Operand.tmp 122) (Operand.const (Value.bool false)), type := 4, pos := "law.go:48", after := #[{ on := 45, ground := Ground.data }, { on := 47, ground := Ground.data }], guard := none }) (v := ?tkv10049) rfl (by kernel_rfl) (by kernel_rfl) (by kernel_rfl) (fun _ _ _ h => h) (Or.inl ⟨by rfl, ?tky10049⟩) hH10006 ?tkr10049
        case tky10049 => (intro w' hSw; clear hSw; go_simp; try with_reducible rfl)
        try simp only [Act.put, List.setIfInBounds_toArray, List.set_cons_zero, List.set_cons_succ]
        refine wpAnyH_take (i := 49) (oi := { dst := some 124, op := Op.move (Operand.tmp 123), type := 4, pos := "law.go:48", after := #[{ on := 48, ground := Ground.data }, { on := 45, ground := Ground.chain }], guard := none }) (v := ?tkv10050) rfl (by kernel_rfl) (by kernel_rfl) (by kernel_rfl) (fun _ _ _ h => h) (Or.inl ⟨by rfl, ?tky10050⟩) hH10006 ?tkr10050
        case tky10050 => (intro w' hSw; clear hSw; go_simp; try with_reducible rfl)
        try simp only [Act.put, List.setIfInBounds_toArray, List.set_cons_zero, List.set_cons_succ]
        refine wpAnyH_ready (rs := [50]) (by kernel_rfl) (by simp) ?_
        refine AllReadyH.cons (o := { dst := some 125, op := Op.call { callee := Callee.value (Operand.func 23), args := #[], argTypes := #[] }, type := 4, pos := "law.go:48", after := #[{ on := 49, ground := Ground.chain }, { on := 49, ground := Ground.guard }], guard := some (49, true) }) rfl (fun K hK => ?_) AllReadyH.nil
        go_simp
        refine (awake22_any wn10006).mono ?_
        rintro e' wn10051 ⟨rfl, hb10051⟩
        go_simp
        have hS10051 : Below (wC.heap.size) wC wn10051 := (hH10006).trans (hb10051.mono (hH10006).size)
        refine hK.out _ _ hS10051 (fun hH10051 => ?_)
        have hH10051 : Below (wC.heap.size) wC wn10051 := hH10051
        clear hK K hS10051
        try simp only [Act.put, List.setIfInBounds_toArray, List.set_cons_zero, List.set_cons_succ]
        refine wpAnyH_take (i := 51) (oi := { dst := some 126, op := Op.pick (Operand.tmp 124) (Operand.tmp 125) (Operand.const (Value.bool false)), type := 4, pos := "law.go:48", after := #[{ on := 49, ground := Ground.data }, { on := 50, ground := Ground.data }], guard := none }) (v := ?tkv10052) rfl (by kernel_rfl) (by kernel_rfl) (by kernel_rfl) (fun _ _ _ h => h) (Or.inl ⟨by rfl, ?tky10052⟩) hH10051 ?tkr10052
        case tky10052 => (intro w' hSw; clear hSw; go_simp; try with_reducible rfl)
        try simp only [Act.put, List.setIfInBounds_toArray, List.set_cons_zero, List.set_cons_succ]
        refine wpAnyH_take (i := 52) (oi := { dst := some 4, op := Op.assign (Operand.tmp 126), type := 4, pos := "law.go:48", after := #[{ on := 51, ground := Ground.data }, { on := 50, ground := Ground.chain }, { on := 0, ground := Ground.phase }, { on := 1, ground := Ground.phase }, { on := 2, ground := Ground.phase }, { on := 3, ground := Ground.phase }, { on := 4, ground := Ground.phase }, { on := 5, ground := Ground.phase }, { on := 6, ground := Ground.phase }, { on := 7, ground := Ground.phase }, { on := 8, ground := Ground.phase }, { on := 9, ground := Ground.phase }, { on := 10, ground := Ground.phase }, { on := 11, ground := Ground.phase }, { on := 12, ground := Ground.phase }, { on := 13, ground := Ground.phase }, { on := 14, ground := Ground.phase }, { on := 15, ground := Ground.phase }, { on := 16, ground := Ground.phase }, { on := 17, ground := Ground.phase }, { on := 18, ground := Ground.phase }, { on := 19, ground := Ground.phase }, { on := 20, ground := Ground.phase }, { on := 21, ground := Ground.phase }, { on := 22, ground := Ground.phase }, { on := 23, ground := Ground.phase }, { on := 24, ground := Ground.phase }, { on := 25, ground := Ground.phase }, { on := 26, ground := Ground.phase }, { on := 27, ground := Ground.phase }, { on := 28, ground := Ground.phase }, { on := 29, ground := Ground.phase }, { on := 30, ground := Ground.phase }, { on := 31, ground := Ground.phase }, { on := 32, ground := Ground.phase }, { on := 33, ground := Ground.phase }, { on := 34, ground := Ground.phase }, { on := 35, ground := Ground.phase }, { on := 36, ground := Ground.phase }, { on := 37, ground := Ground.phase }, { on := 38, ground := Ground.phase }, { on := 39, ground := Ground.phase }, { on := 40, ground := Ground.phase }, { on := 41, ground := Ground.phase }, { on := 42, ground := Ground.phase }, { on := 43, ground := Ground.phase }, { on := 44, ground := Ground.phase }, { on := 45, ground := Ground.phase }, { on := 46, ground := Ground.phase }, { on := 47, ground := Ground.phase }, { on := 48, ground := Ground.phase }, { on := 49, ground := Ground.phase }, { on := 50, ground := Ground.phase }, { on := 51, ground := Ground.phase }], guard := none }) (v := ?tkv10053) rfl (by kernel_rfl) (by kernel_rfl) (by kernel_rfl) (fun _ _ _ h => h) (Or.inl ⟨by rfl, ?tky10053⟩) hH10051 ?tkr10053
        case tky10053 => (intro w' hSw; clear hSw; go_simp; try with_reducible rfl)
        try simp only [Act.put, List.setIfInBounds_toArray, List.set_cons_zero, List.set_cons_succ]
        refine wpAnyH_done (by kernel_rfl) ?_ _
        refine NoPanic.normal ?_
        have HEND := Lib.hid ((HE.out _ (hH10051)).b)
        go_wp2_with fail
        go_ret
        exact ⟨rfl, HEND.out⟩
      | false =>
        have HV3 : Hid True := Lib.hid trivial
        refine wp_region_noPanic ?_
        refine wp_region_held_drew (S := (fun W => Below (wC.heap.size) wC W)) (by kernel_rfl) (Below.refl _ _).drew (fun hH0 => ?_)
        have hH0 : Below (wC.heap.size) wC wC.drew := hH0
        generalize wC.drew = wd11000 at *
        refine wpAnyH_take (i := 0) (oi := { dst := some 75, op := Op.load 30 (Operand.tmp 5), type := 30, pos := "law.go:48", after := #[], guard := none }) (v := .agg c1) rfl (by kernel_rfl) (by kernel_rfl) (by kernel_rfl) (fun _ _ _ h => h) (yields_row (by rfl) _ _ rfl w2.heap.size rfl _ _ _ _ (fun W hW => (HE.out W hW).bx _ _ _ (.tail _ (.head _))) Try.underlying30 rfl I1.out) hH0 ?tkr11001
        try simp only [Act.put, List.setIfInBounds_toArray, List.set_cons_zero, List.set_cons_succ]
        refine wpAnyH_ready (rs := [1]) (by kernel_rfl) (by simp) ?_
        refine AllReadyH.cons (o := { dst := some 76, op := Op.call { callee := Callee.value (Operand.func 17), args := #[Operand.tmp 75], argTypes := #[30] }, type := 4, pos := "law.go:48", after := #[{ on := 0, ground := Ground.data }], guard := none }) rfl (fun K hK => ?_) AllReadyH.nil
        go_simp
        refine (mayS ((HE.out wd11000 (hH0)).st _ _ (.tail _ (.head _)))).mono ?_
        rintro e' wn11002 ⟨rfl, hb11002⟩
        rw [HMAY.out]
        go_simp
        have hS11002 : Below (wC.heap.size) wC wn11002 := (hH0).trans (hb11002.mono (hH0).size)
        refine hK.out _ _ hS11002 (fun hH11002 => ?_)
        have hH11002 : Below (wC.heap.size) wC wn11002 := hH11002
        clear hK K hS11002
        try simp only [Act.put, List.setIfInBounds_toArray, List.set_cons_zero, List.set_cons_succ]
        refine wpAnyH_take (i := 2) (oi := { dst := some 77, op := Op.move (Operand.tmp 76), type := 4, pos := "law.go:48", after := #[{ on := 1, ground := Ground.data }, { on := 1, ground := Ground.chain }], guard := none }) (v := ?tkv11003) rfl (by kernel_rfl) (by kernel_rfl) (by kernel_rfl) (fun _ _ _ h => h) (Or.inl ⟨by rfl, ?tky11003⟩) hH11002 ?tkr11003
        case tky11003 => (intro w' hSw; clear hSw; go_simp; try with_reducible rfl)
        try simp only [Act.put, List.setIfInBounds_toArray, List.set_cons_zero, List.set_cons_succ]
        refine wpAnyH_take (i := 3) (oi := { dst := some 78, op := Op.load 30 (Operand.tmp 5), type := 30, pos := "law.go:48", after := #[{ on := 2, ground := Ground.guard }], guard := some (2, true) }) (v := .agg c1) rfl (by kernel_rfl) (by kernel_rfl) (by kernel_rfl) (fun _ _ _ h => h) (yields_row (by rfl) _ _ rfl w2.heap.size rfl _ _ _ _ (fun W hW => (HE.out W hW).bx _ _ _ (.tail _ (.head _))) Try.underlying30 rfl I1.out) hH11002 ?tkr11004
        try simp only [Act.put, List.setIfInBounds_toArray, List.set_cons_zero, List.set_cons_succ]
        refine wpAnyH_take (i := 4) (oi := { dst := some 79, op := Op.load 30 (Operand.tmp 9), type := 30, pos := "law.go:48", after := #[{ on := 2, ground := Ground.guard }], guard := some (2, true) }) (v := .agg cu) rfl (by kernel_rfl) (by kernel_rfl) (by kernel_rfl) (fun _ _ _ h => h) (yields_row (by rfl) _ _ rfl w5.heap.size rfl _ _ _ _ (fun W hW => (HE.out W hW).bx _ _ _ (.head _)) Try.underlying30 rfl IU.out) hH11002 ?tkr11005
        try simp only [Act.put, List.setIfInBounds_toArray, List.set_cons_zero, List.set_cons_succ]
        refine wpAnyH_ready (rs := [5]) (by kernel_rfl) (by simp) ?_
        refine AllReadyH.cons (o := { dst := some 80, op := Op.call { callee := Callee.value (Operand.func 19), args := #[Operand.tmp 78, Operand.tmp 79], argTypes := #[30, 30] }, type := 4, pos := "law.go:48", after := #[{ on := 3, ground := Ground.data }, { on := 4, ground := Ground.data }, { on := 2, ground := Ground.chain }, { on := 2, ground := Ground.guard }], guard := some (2, true) }) rfl (fun K hK => ?_) AllReadyH.nil
        go_simp
        refine (sameS ((HE.out wn11002 (hH11002)).st _ _ (.tail _ (.head _))) ((HE.out wn11002 (hH11002)).st _ _ (.head _))).mono ?_
        rintro e' wn11006 ⟨rfl, hb11006⟩
        rw [HEQ.out]
        go_simp
        have hS11006 : Below (wC.heap.size) wC wn11006 := (hH11002).trans (hb11006.mono (hH11002).size)
        refine hK.out _ _ hS11006 (fun hH11006 => ?_)
        have hH11006 : Below (wC.heap.size) wC wn11006 := hH11006
        clear hK K hS11006
        try simp only [Act.put, List.setIfInBounds_toArray, List.set_cons_zero, List.set_cons_succ]
        refine wpAnyH_take (i := 6) (oi := { dst := some 81, op := Op.pick (Operand.tmp 77) (Operand.tmp 80) (Operand.const (Value.bool false)), type := 4, pos := "law.go:48", after := #[{ on := 2, ground := Ground.data }, { on := 5, ground := Ground.data }], guard := none }) (v := ?tkv11007) rfl (by kernel_rfl) (by kernel_rfl) (by kernel_rfl) (fun _ _ _ h => h) (Or.inl ⟨by rfl, ?tky11007⟩) hH11006 ?tkr11007
        case tky11007 => (intro w' hSw; clear hSw; go_simp; try with_reducible rfl)
        try simp only [Act.put, List.setIfInBounds_toArray, List.set_cons_zero, List.set_cons_succ]
        refine wpAnyH_take (i := 7) (oi := { dst := some 82, op := Op.move (Operand.tmp 81), type := 4, pos := "law.go:48", after := #[{ on := 6, ground := Ground.data }, { on := 5, ground := Ground.chain }], guard := none }) (v := ?tkv11008) rfl (by kernel_rfl) (by kernel_rfl) (by kernel_rfl) (fun _ _ _ h => h) (Or.inl ⟨by rfl, ?tky11008⟩) hH11006 ?tkr11008
        case tky11008 => (intro w' hSw; clear hSw; go_simp; try with_reducible rfl)
        try simp only [Act.put, List.setIfInBounds_toArray, List.set_cons_zero, List.set_cons_succ]
        refine wpAnyH_take (i := 8) (oi := { dst := some 83, op := Op.fieldAddr 28 (Operand.tmp 3) 1, type := 0, pos := "law.go:48", after := #[{ on := 7, ground := Ground.guard }], guard := some (7, true) }) (v := ?tkv11009) rfl (by kernel_rfl) (by kernel_rfl) (by kernel_rfl) (fun _ _ _ h => h) (Or.inl ⟨by rfl, ?tky11009⟩) hH11006 ?tkr11009
        case tky11009 => (intro w' hSw; clear hSw; go_simp; try with_reducible rfl)
        try simp only [Act.put, List.setIfInBounds_toArray, List.set_cons_zero, List.set_cons_succ]
        refine wpAnyH_take (i := 9) (oi := { dst := some 84, op := Op.load 22 (Operand.tmp 83), type := 22, pos := "law.go:48", after := #[{ on := 8, ground := Ground.data }, { on := 7, ground := Ground.guard }], guard := some (7, true) }) (v := ?tkv11010) rfl (by kernel_rfl) (by kernel_rfl) (by kernel_rfl) (fun _ _ _ h => h) (Or.inl ⟨by rfl, ?tky11010⟩) hH11006 ?tkr11010
        case tky11010 => (intro w' hSw; have z0 := F31.out _ hSw; have z1 := F22.out _ hSw; have z2 := F20.out _ hSw; have z3 := FAV.out _ hSw; have z4 := F2o.out _ hSw; have z5 := F2v.out _ hSw; have z6 := F53.out _ hSw; have z7 := F23.out _ hSw; clear hSw; go_simp; try with_reducible rfl)
        try simp only [Act.put, List.setIfInBounds_toArray, List.set_cons_zero, List.set_cons_succ]
        refine wpAnyH_take (i := 10) (oi := { dst := some 85, op := Op.fieldAddr 30 (Operand.tmp 2) 2, type := 0, pos := "law.go:48", after := #[{ on := 7, ground := Ground.guard }], guard := some (7, true) }) (v := ?tkv11011) rfl (by kernel_rfl) (by kernel_rfl) (by kernel_rfl) (fun _ _ _ h => h) (Or.inl ⟨by rfl, ?tky11011⟩) hH11006 ?tkr11011
        case tky11011 => (intro w' hSw; clear hSw; go_simp; try with_reducible rfl)
        try simp only [Act.put, List.setIfInBounds_toArray, List.set_cons_zero, List.set_cons_succ]
        refine wpAnyH_take (i := 11) (oi := { dst := some 86, op := Op.load 22 (Operand.tmp 85), type := 22, pos := "law.go:48", after := #[{ on := 10, ground := Ground.data }, { on := 7, ground := Ground.guard }], guard := some (7, true) }) (v := ?tkv11012) rfl (by kernel_rfl) (by kernel_rfl) (by kernel_rfl) (fun _ _ _ h => h) (Or.inl ⟨by rfl, ?tky11012⟩) hH11006 ?tkr11012
        case tky11012 => (intro w' hSw; have z0 := F31.out _ hSw; have z1 := F22.out _ hSw; have z2 := F20.out _ hSw; have z3 := FAV.out _ hSw; have z4 := F2o.out _ hSw; have z5 := F2v.out _ hSw; have z6 := F53.out _ hSw; have z7 := F23.out _ hSw; clear hSw; go_simp; try with_reducible rfl)
        try simp only [Act.put, List.setIfInBounds_toArray, List.set_cons_zero, List.set_cons_succ]
        refine wpAnyH_take (i := 12) (oi := { dst := some 87, op := Op.binOp BinOp.gtr 22 (Operand.tmp 84) (Operand.tmp 86) 22, type := 4, pos := "law.go:48", after := #[{ on := 9, ground := Ground.data }, { on := 11, ground := Ground.data }, { on := 7, ground := Ground.guard }], guard := some (7, true) }) (v := ?tkv11013) rfl (by kernel_rfl) (by kernel_rfl) (by kernel_rfl) (fun _ _ _ h => h) (Or.inl ⟨by rfl, ?tky11013⟩) hH11006 ?tkr11013
        case tky11013 => (intro w' hSw; have q1 := HV1.out; clear hSw; go_simp; try with_reducible rfl)
        try simp only [Act.put, List.setIfInBounds_toArray, List.set_cons_zero, List.set_cons_succ]
        refine wpAnyH_take (i := 13) (oi := { dst := some 88, op := Op.pick (Operand.tmp 82) (Operand.tmp 87) (Operand.const (Value.bool false)), type := 4, pos := "law.go:48", after := #[{ on := 7, ground := Ground.data }, { on := 12, ground := Ground.data }], guard := none }) (v := ?tkv11014) rfl (by kernel_rfl) (by kernel_rfl) (by kernel_rfl) (fun _ _ _ h => h) (Or.inl ⟨by rfl, ?tky11014⟩) hH11006 ?tkr11014
        case tky11014 => (intro w' hSw; clear hSw; go_simp; try with_reducible rfl)
        try simp only [Act.put, List.setIfInBounds_toArray, List.set_cons_zero, List.set_cons_succ]
        refine wpAnyH_take (i := 14) (oi := { dst := some 89, op := Op.move (Operand.tmp 88), type := 4, pos := "law.go:48", after := #[{ on := 13, ground := Ground.data }, { on := 7, ground := Ground.chain }], guard := none }) (v := ?tkv11015) rfl (by kernel_rfl) (by kernel_rfl) (by kernel_rfl) (fun _ _ _ h => h) (Or.inl ⟨by rfl, ?tky11015⟩) hH11006 ?tkr11015
        case tky11015 => (intro w' hSw; clear hSw; go_simp; try with_reducible rfl)
        try simp only [Act.put, List.setIfInBounds_toArray, List.set_cons_zero, List.set_cons_succ]
        refine wpAnyH_take (i := 15) (oi := { dst := some 90, op := Op.fieldAddr 28 (Operand.tmp 3) 1, type := 0, pos := "law.go:48", after := #[{ on := 14, ground := Ground.guard }], guard := some (14, true) }) (v := ?tkv11016) rfl (by kernel_rfl) (by kernel_rfl) (by kernel_rfl) (fun _ _ _ h => h) (Or.inl ⟨by rfl, ?tky11016⟩) hH11006 ?tkr11016
        case tky11016 => (intro w' hSw; clear hSw; go_simp; try with_reducible rfl)
        try simp only [Act.put, List.setIfInBounds_toArray, List.set_cons_zero, List.set_cons_succ]
        refine wpAnyH_take (i := 16) (oi := { dst := some 91, op := Op.load 22 (Operand.tmp 90), type := 22, pos := "law.go:48", after := #[{ on := 15, ground := Ground.data }, { on := 14, ground := Ground.guard }], guard := some (14, true) }) (v := ?tkv11017) rfl (by kernel_rfl) (by kernel_rfl) (by kernel_rfl) (fun _ _ _ h => h) (Or.inl ⟨by rfl, ?tky11017⟩) hH11006 ?tkr11017
        case tky11017 => (intro w' hSw; have z0 := F31.out _ hSw; have z1 := F22.out _ hSw; have z2 := F20.out _ hSw; have z3 := FAV.out _ hSw; have z4 := F2o.out _ hSw; have z5 := F2v.out _ hSw; have z6 := F53.out _ hSw; have z7 := F23.out _ hSw; clear hSw; go_simp; try with_reducible rfl)
        try simp only [Act.put, List.setIfInBounds_toArray, List.set_cons_zero, List.set_cons_succ]
        refine wpAnyH_take (i := 17) (oi := { dst := some 92, op := Op.fieldAddr 30 (Operand.tmp 2) 0, type := 0, pos := "law.go:48", after := #[{ on := 14, ground := Ground.guard }], guard := some (14, true) }) (v := ?tkv11018) rfl (by kernel_rfl) (by kernel_rfl) (by kernel_rfl) (fun _ _ _ h => h) (Or.inl ⟨by rfl, ?tky11018⟩) hH11006 ?tkr11018
        case tky11018 => (intro w' hSw; clear hSw; go_simp; try with_reducible rfl)
        try simp only [Act.put, List.setIfInBounds_toArray, List.set_cons_zero, List.set_cons_succ]
        refine wpAnyH_take (i := 18) (oi := { dst := some 93, op := Op.load 3 (Operand.tmp 92), type := 3, pos := "law.go:48", after := #[{ on := 17, ground := Ground.data }, { on := 14, ground := Ground.guard }], guard := some (14, true) }) (v := ?tkv11019) rfl (by kernel_rfl) (by kernel_rfl) (by kernel_rfl) (fun _ _ _ h => h) (Or.inl ⟨by rfl, ?tky11019⟩) hH11006 ?tkr11019
        case tky11019 => (intro w' hSw; have z0 := F31.out _ hSw; have z1 := F22.out _ hSw; have z2 := F20.out _ hSw; have z3 := FAV.out _ hSw; have z4 := F2o.out _ hSw; have z5 := F2v.out _ hSw; have z6 := F53.out _ hSw; have z7 := F23.out _ hSw; clear hSw; go_simp; try with_reducible rfl)
        try simp only [Act.put, List.setIfInBounds_toArray, List.set_cons_zero, List.set_cons_succ]
        refine wpAnyH_take (i := 19) (oi := { dst := some 94, op := Op.fieldAddr 30 (Operand.tmp 2) 4, type := 0, pos := "law.go:48", after := #[{ on := 14, ground := Ground.guard }], guard := some (14, true) }) (v := ?tkv11020) rfl (by kernel_rfl) (by kernel_rfl) (by kernel_rfl) (fun _ _ _ h => h) (Or.inl ⟨by rfl, ?tky11020⟩) hH11006 ?tkr11020
        case tky11020 => (intro w' hSw; clear hSw; go_simp; try with_reducible rfl)
        try simp only [Act.put, List.setIfInBounds_toArray, List.set_cons_zero, List.set_cons_succ]
        refine wpAnyH_take (i := 20) (oi := { dst := some 95, op := Op.indexAddr 26 (Operand.tmp 94) (Operand.tmp 93), type := 0, pos := "law.go:48", after := #[{ on := 19, ground := Ground.data }, { on := 18, ground := Ground.data }, { on := 14, ground := Ground.guard }], guard := some (14, true) }) (v := ?tkv11021) rfl (by kernel_rfl) (by kernel_rfl) (by kernel_rfl) (fun _ _ _ h => h) (Or.inl ⟨by rfl, ?tky11021⟩) hH11006 ?tkr11021
        case tky11021 => (intro w' hSw; clear hSw; go_simp; try with_reducible rfl)
        try simp only [Act.put, List.setIfInBounds_toArray, List.set_cons_zero, List.set_cons_succ]
        refine wpAnyH_take (i := 21) (oi := { dst := some 96, op := Op.fieldAddr 25 (Operand.tmp 95) 0, type := 0, pos := "law.go:48", after := #[{ on := 20, ground := Ground.data }, { on := 14, ground := Ground.guard }], guard := some (14, true) }) (v := ?tkv11022) rfl (by kernel_rfl) (by kernel_rfl) (by kernel_rfl) (fun _ _ _ h => h) (Or.inl ⟨by rfl, ?tky11022⟩) hH11006 ?tkr11022
        case tky11022 => (intro w' hSw; clear hSw; go_simp; try with_reducible rfl)
        try simp only [Act.put, List.setIfInBounds_toArray, List.set_cons_zero, List.set_cons_succ]
        refine wpAnyH_take (i := 22) (oi := { dst := some 97, op := Op.load 22 (Operand.tmp 96), type := 22, pos := "law.go:48", after := #[{ on := 21, ground := Ground.data }, { on := 14, ground := Ground.guard }], guard := some (14, true) }) (v := ?tkv11023) rfl (by kernel_rfl) (by kernel_rfl) (by kernel_rfl) (fun _ _ _ h => h) (Or.inl ⟨by rfl, ?tky11023⟩) hH11006 ?tkr11023
        case tky11023 => (intro w' hSw; have z0 := F31.out _ hSw; have z1 := F22.out _ hSw; have z2 := F20.out _ hSw; have z3 := FAV.out _ hSw; have z4 := F2o.out _ hSw; have z5 := F2v.out _ hSw; have z6 := F53.out _ hSw; have z7 := F23.out _ hSw; clear hSw; go_simp; try with_reducible rfl)
        try simp only [Act.put, List.setIfInBounds_toArray, List.set_cons_zero, List.set_cons_succ]
        refine wpAnyH_take (i := 23) (oi := { dst := some 98, op := Op.binOp BinOp.gtr 22 (Operand.tmp 91) (Operand.tmp 97) 22, type := 4, pos := "law.go:48", after := #[{ on := 16, ground := Ground.data }, { on := 22, ground := Ground.data }, { on := 14, ground := Ground.guard }], guard := some (14, true) }) (v := ?tkv11024) rfl (by kernel_rfl) (by kernel_rfl) (by kernel_rfl) (fun _ _ _ h => h) (Or.inl ⟨by rfl, ?tky11024⟩) hH11006 ?tkr11024
        case tky11024 => (intro w' hSw; have q1 := HV2.out; clear hSw; go_simp; try with_reducible rfl)
        try simp only [Act.put, List.setIfInBounds_toArray, List.set_cons_zero, List.set_cons_succ]
        refine wpAnyH_take (i := 24) (oi := { dst := some 99, op := Op.pick (Operand.tmp 89) (Operand.tmp 98) (Operand.const (Value.bool false)), type := 4, pos := "law.go:48", after := #[{ on := 14, ground := Ground.data }, { on := 23, ground := Ground.data }], guard := none }) (v := ?tkv11025) rfl (by kernel_rfl) (by kernel_rfl) (by kernel_rfl) (fun _ _ _ h => h) (Or.inl ⟨by rfl, ?tky11025⟩) hH11006 ?tkr11025
        case tky11025 => (intro w' hSw; clear hSw; go_simp; try with_reducible rfl)
        try simp only [Act.put, List.setIfInBounds_toArray, List.set_cons_zero, List.set_cons_succ]
        refine wpAnyH_take (i := 25) (oi := { dst := some 100, op := Op.move (Operand.tmp 99), type := 4, pos := "law.go:48", after := #[{ on := 24, ground := Ground.data }, { on := 14, ground := Ground.chain }], guard := none }) (v := ?tkv11026) rfl (by kernel_rfl) (by kernel_rfl) (by kernel_rfl) (fun _ _ _ h => h) (Or.inl ⟨by rfl, ?tky11026⟩) hH11006 ?tkr11026
        case tky11026 => (intro w' hSw; clear hSw; go_simp; try with_reducible rfl)
        try simp only [Act.put, List.setIfInBounds_toArray, List.set_cons_zero, List.set_cons_succ]
        refine wpAnyH_take (i := 26) (oi := { dst := some 101, op := Op.fieldAddr 30 (Operand.tmp 2) 5, type := 0, pos := "law.go:48", after := #[{ on := 25, ground := Ground.guard }], guard := some (25, true) }) (v := ?tkv11027) rfl (by kernel_rfl) (by kernel_rfl) (by kernel_rfl) (fun _ _ _ h => h) (Or.inl ⟨by rfl, ?tky11027⟩) hH11006 ?tkr11027
        case tky11027 => (intro w' hSw; clear hSw; go_simp; try with_reducible rfl)
        try simp only [Act.put, List.setIfInBounds_toArray, List.set_cons_zero, List.set_cons_succ]
        refine wpAnyH_take (i := 27) (oi := { dst := some 102, op := Op.load 4 (Operand.tmp 101), type := 4, pos := "law.go:48", after := #[{ on := 26, ground := Ground.data }, { on := 25, ground := Ground.guard }], guard := some (25, true) }) (v := ?tkv11028) rfl (by kernel_rfl) (by kernel_rfl) (by kernel_rfl) (fun _ _ _ h => h) (Or.inl ⟨by rfl, ?tky11028⟩) hH11006 ?tkr11028
        case tky11028 => (intro w' hSw; have z0 := F31.out _ hSw; have z1 := F22.out _ hSw; have z2 := F20.out _ hSw; have z3 := FAV.out _ hSw; have z4 := F2o.out _ hSw; have z5 := F2v.out _ hSw; have z6 := F53.out _ hSw; have z7 := F23.out _ hSw; clear hSw; go_simp; try with_reducible rfl)
        try simp only [Act.put, List.setIfInBounds_toArray, List.set_cons_zero, List.set_cons_succ]
        refine wpAnyH_take (i := 28) (oi := { dst := some 103, op := Op.unOp UnOp.not 4 (Operand.tmp 102), type := 4, pos := "law.go:48", after := #[{ on := 27, ground := Ground.data }, { on := 25, ground := Ground.guard }], guard := some (25, true) }) (v := ?tkv11029) rfl (by kernel_rfl) (by kernel_rfl) (by kernel_rfl) (fun _ _ _ h => h) (Or.inl ⟨by rfl, ?tky11029⟩) hH11006 ?tkr11029
        case tky11029 => (intro w' hSw; clear hSw; go_simp; try with_reducible rfl)
        try simp only [Act.put, List.setIfInBounds_toArray, List.set_cons_zero, List.set_cons_succ]
        refine wpAnyH_take (i := 29) (oi := { dst := some 104, op := Op.move (Operand.tmp 103), type := 4, pos := "law.go:48", after := #[{ on := 28, ground := Ground.data }, { on := 25, ground := Ground.chain }, { on := 25, ground := Ground.guard }], guard := some (25, true) }) (v := ?tkv11030) rfl (by kernel_rfl) (by kernel_rfl) (by kernel_rfl) (fun _ _ _ h => h) (Or.inl ⟨by rfl, ?tky11030⟩) hH11006 ?tkr11030
        case tky11030 => (intro w' hSw; clear hSw; go_simp; try with_reducible rfl)
        try simp only [Act.put, List.setIfInBounds_toArray, List.set_cons_zero, List.set_cons_succ]
        refine wpAnyH_take (i := 30) (oi := { dst := some 105, op := Op.fieldAddr 28 (Operand.tmp 3) 1, type := 0, pos := "law.go:48", after := #[{ on := 29, ground := Ground.guard }], guard := some (29, false) }) (v := undef) rfl (by kernel_rfl) (by kernel_rfl) (by kernel_rfl) (fun _ _ _ h => h) (Or.inr ⟨by rfl, rfl⟩) hH11006 ?tkr11031
        try simp only [Act.put, List.setIfInBounds_toArray, List.set_cons_zero, List.set_cons_succ]
        refine wpAnyH_take (i := 31) (oi := { dst := some 106, op := Op.load 22 (Operand.tmp 105), type := 22, pos := "law.go:48", after := #[{ on := 30, ground := Ground.data }, { on := 29, ground := Ground.guard }], guard := some (29, false) }) (v := undef) rfl (by kernel_rfl) (by kernel_rfl) (by kernel_rfl) (fun _ _ _ h => h) (Or.inr ⟨by rfl, rfl⟩) hH11006 ?tkr11032
        try simp only [Act.put, List.setIfInBounds_toArray, List.set_cons_zero, List.set_cons_succ]
        refine wpAnyH_take (i := 32) (oi := { dst := some 107, op := Op.fieldAddr 30 (Operand.tmp 2) 6, type := 0, pos := "law.go:48", after := #[{ on := 29, ground := Ground.guard }], guard := some (29, false) }) (v := undef) rfl (by kernel_rfl) (by kernel_rfl) (by kernel_rfl) (fun _ _ _ h => h) (Or.inr ⟨by rfl, rfl⟩) hH11006 ?tkr11033
        try simp only [Act.put, List.setIfInBounds_toArray, List.set_cons_zero, List.set_cons_succ]
        refine wpAnyH_take (i := 33) (oi := { dst := some 108, op := Op.fieldAddr 28 (Operand.tmp 107) 1, type := 0, pos := "law.go:48", after := #[{ on := 32, ground := Ground.data }, { on := 29, ground := Ground.guard }], guard := some (29, false) }) (v := undef) rfl (by kernel_rfl) (by kernel_rfl) (by kernel_rfl) (fun _ _ _ h => h) (Or.inr ⟨by rfl, rfl⟩) hH11006 ?tkr11034
        try simp only [Act.put, List.setIfInBounds_toArray, List.set_cons_zero, List.set_cons_succ]
        refine wpAnyH_take (i := 34) (oi := { dst := some 109, op := Op.load 22 (Operand.tmp 108), type := 22, pos := "law.go:48", after := #[{ on := 33, ground := Ground.data }, { on := 29, ground := Ground.guard }], guard := some (29, false) }) (v := undef) rfl (by kernel_rfl) (by kernel_rfl) (by kernel_rfl) (fun _ _ _ h => h) (Or.inr ⟨by rfl, rfl⟩) hH11006 ?tkr11035
        try simp only [Act.put, List.setIfInBounds_toArray, List.set_cons_zero, List.set_cons_succ]
        refine wpAnyH_take (i := 35) (oi := { dst := some 110, op := Op.binOp BinOp.gtr 22 (Operand.tmp 106) (Operand.tmp 109) 22, type := 4, pos := "law.go:48", after := #[{ on := 31, ground := Ground.data }, { on := 34, ground := Ground.data }, { on := 29, ground := Ground.guard }], guard := some (29, false) }) (v := undef) rfl (by kernel_rfl) (by kernel_rfl) (by kernel_rfl) (fun _ _ _ h => h) (Or.inr ⟨by rfl, rfl⟩) hH11006 ?tkr11036
        try simp only [Act.put, List.setIfInBounds_toArray, List.set_cons_zero, List.set_cons_succ]
        refine wpAnyH_take (i := 36) (oi := { dst := some 111, op := Op.pick (Operand.tmp 104) (Operand.const (Value.bool true)) (Operand.tmp 110), type := 4, pos := "law.go:48", after := #[{ on := 29, ground := Ground.data }, { on := 35, ground := Ground.data }, { on := 25, ground := Ground.guard }], guard := some (25, true) }) (v := ?tkv11037) rfl (by kernel_rfl) (by kernel_rfl) (by kernel_rfl) (fun _ _ _ h => h) (Or.inl ⟨by rfl, ?tky11037⟩) hH11006 ?tkr11037
        case tky11037 => (intro w' hSw; clear hSw; go_simp; try with_reducible rfl)
        try simp only [Act.put, List.setIfInBounds_toArray, List.set_cons_zero, List.set_cons_succ]
        refine wpAnyH_take (i := 37) (oi := { dst := some 112, op := Op.pick (Operand.tmp 100) (Operand.tmp 111) (Operand.const (Value.bool false)), type := 4, pos := "law.go:48", after := #[{ on := 25, ground := Ground.data }, { on := 36, ground := Ground.data }], guard := none }) (v := ?tkv11038) rfl (by kernel_rfl) (by kernel_rfl) (by kernel_rfl) (fun _ _ _ h => h) (Or.inl ⟨by rfl, ?tky11038⟩) hH11006 ?tkr11038
        case tky11038 => (intro w' hSw; clear hSw; go_simp; try with_reducible rfl)
        try simp only [Act.put, List.setIfInBounds_toArray, List.set_cons_zero, List.set_cons_succ]
        refine wpAnyH_take (i := 38) (oi := { dst := some 113, op := Op.move (Operand.tmp 112), type := 4, pos := "law.go:48", after := #[{ on := 37, ground := Ground.data }, { on := 29, ground := Ground.chain }], guard := none }) (v := ?tkv11039) rfl (by kernel_rfl) (by kernel_rfl) (by kernel_rfl) (fun _ _ _ h => h) (Or.inl ⟨by rfl, ?tky11039⟩) hH11006 ?tkr11039
        case tky11039 => (intro w' hSw; clear hSw; go_simp; try with_reducible rfl)
        try simp only [Act.put, List.setIfInBounds_toArray, List.set_cons_zero, List.set_cons_succ]
        refine wpAnyH_take (i := 39) (oi := { dst := some 114, op := Op.fieldAddr 30 (Operand.tmp 5) 3, type := 0, pos := "law.go:48", after := #[{ on := 38, ground := Ground.guard }], guard := some (38, true) }) (v := ?tkv11040) rfl (by kernel_rfl) (by kernel_rfl) (by kernel_rfl) (fun _ _ _ h => h) (Or.inl ⟨by rfl, ?tky11040⟩) hH11006 ?tkr11040
        case tky11040 => (intro w' hSw; clear hSw; go_simp; try with_reducible rfl)
        try simp only [Act.put, List.setIfInBounds_toArray, List.set_cons_zero, List.set_cons_succ]
        refine wpAnyH_take (i := 40) (oi := { dst := some 115, op := Op.load 22 (Operand.tmp 114), type := 22, pos := "law.go:48", after := #[{ on := 39, ground := Ground.data }, { on := 38, ground := Ground.guard }], guard := some (38, true) }) (v := ?tkv11041) rfl (by kernel_rfl) (by kernel_rfl) (by kernel_rfl) (fun _ _ _ h => h) (Or.inl ⟨by rfl, ?tky11041⟩) hH11006 ?tkr11041
        case tky11041 => (intro w' hSw; have z0 := F31.out _ hSw; have z1 := F22.out _ hSw; have z2 := F20.out _ hSw; have z3 := FAV.out _ hSw; have z4 := F2o.out _ hSw; have z5 := F2v.out _ hSw; have z6 := F53.out _ hSw; have z7 := F23.out _ hSw; clear hSw; go_simp; try with_reducible rfl)
        try simp only [Act.put, List.setIfInBounds_toArray, List.set_cons_zero, List.set_cons_succ]
        refine wpAnyH_take (i := 41) (oi := { dst := some 116, op := Op.fieldAddr 30 (Operand.tmp 2) 3, type := 0, pos := "law.go:48", after := #[{ on := 38, ground := Ground.guard }], guard := some (38, true) }) (v := ?tkv11042) rfl (by kernel_rfl) (by kernel_rfl) (by kernel_rfl) (fun _ _ _ h => h) (Or.inl ⟨by rfl, ?tky11042⟩) hH11006 ?tkr11042
        case tky11042 => (intro w' hSw; clear hSw; go_simp; try with_reducible rfl)
        try simp only [Act.put, List.setIfInBounds_toArray, List.set_cons_zero, List.set_cons_succ]
        refine wpAnyH_take (i := 42) (oi := { dst := some 117, op := Op.load 22 (Operand.tmp 116), type := 22, pos := "law.go:48", after := #[{ on := 41, ground := Ground.data }, { on := 38, ground := Ground.guard }], guard := some (38, true) }) (v := ?tkv11043) rfl (by kernel_rfl) (by kernel_rfl) (by kernel_rfl) (fun _ _ _ h => h) (Or.inl ⟨by rfl, ?tky11043⟩) hH11006 ?tkr11043
        case tky11043 => (intro w' hSw; have z0 := F31.out _ hSw; have z1 := F22.out _ hSw; have z2 := F20.out _ hSw; have z3 := FAV.out _ hSw; have z4 := F2o.out _ hSw; have z5 := F2v.out _ hSw; have z6 := F53.out _ hSw; have z7 := F23.out _ hSw; clear hSw; go_simp; try with_reducible rfl)
        try simp only [Act.put, List.setIfInBounds_toArray, List.set_cons_zero, List.set_cons_succ]
        refine wpAnyH_take (i := 43) (oi := { dst := some 118, op := Op.binOp BinOp.gtr 22 (Operand.tmp 115) (Operand.tmp 117) 22, type := 4, pos := "law.go:48", after := #[{ on := 40, ground := Ground.data }, { on := 42, ground := Ground.data }, { on := 38, ground := Ground.guard }], guard := some (38, true) }) (v := ?tkv11044) rfl (by kernel_rfl) (by kernel_rfl) (by kernel_rfl) (fun _ _ _ h => h) (Or.inl ⟨by rfl, ?tky11044⟩) hH11006 ?tkr11044
        case tky11044 => (intro w' hSw; have q1 := HV4.out; clear hSw; go_simp; try with_reducible rfl)
        try simp only [Act.put, List.setIfInBounds_toArray, List.set_cons_zero, List.set_cons_succ]
        refine wpAnyH_take (i := 44) (oi := { dst := some 119, op := Op.pick (Operand.tmp 113) (Operand.tmp 118) (Operand.const (Value.bool false)), type := 4, pos := "law.go:48", after := #[{ on := 38, ground := Ground.data }, { on := 43, ground := Ground.data }], guard := none }) (v := ?tkv11045) rfl (by kernel_rfl) (by kernel_rfl) (by kernel_rfl) (fun _ _ _ h => h) (Or.inl ⟨by rfl, ?tky11045⟩) hH11006 ?tkr11045
        case tky11045 => (intro w' hSw; clear hSw; go_simp; try with_reducible rfl)
        try simp only [Act.put, List.setIfInBounds_toArray, List.set_cons_zero, List.set_cons_succ]
        refine wpAnyH_take (i := 45) (oi := { dst := some 120, op := Op.move (Operand.tmp 119), type := 4, pos := "law.go:48", after := #[{ on := 44, ground := Ground.data }, { on := 38, ground := Ground.chain }], guard := none }) (v := ?tkv11046) rfl (by kernel_rfl) (by kernel_rfl) (by kernel_rfl) (fun _ _ _ h => h) (Or.inl ⟨by rfl, ?tky11046⟩) hH11006 ?tkr11046
        case tky11046 => (intro w' hSw; clear hSw; go_simp; try with_reducible rfl)
        try simp only [Act.put, List.setIfInBounds_toArray, List.set_cons_zero, List.set_cons_succ]
        refine wpAnyH_take (i := 46) (oi := { dst := some 121, op := Op.move (Operand.tmp 8), type := 33, pos := "law.go:48", after := #[{ on := 45, ground := Ground.guard }], guard := some (45, true) }) (v := ?tkv11047) rfl (by kernel_rfl) (by kernel_rfl) (by kernel_rfl) (fun _ _ _ h => h) (Or.inl ⟨by rfl, ?tky11047⟩) hH11006 ?tkr11047
        case tky11047 => (intro w' hSw; clear hSw; go_simp; try with_reducible rfl)
        try simp only [Act.put, List.setIfInBounds_toArray, List.set_cons_zero, List.set_cons_succ]
        refine wpAnyH_take (i := 47) (oi := { dst := some 122, op := Op.binOp BinOp.eql 33 (Operand.tmp 121) (Operand.const (Value.int IntKind.i64 8)) 33, type := 4, pos := "law.go:48", after := #[{ on := 46, ground := Ground.data }, { on := 45, ground := Ground.guard }], guard := some (45, true) }) (v := ?tkv11048) rfl (by kernel_rfl) (by kernel_rfl) (by kernel_rfl) (fun _ _ _ h => h) (Or.inl ⟨by rfl, ?tky11048⟩) hH11006 ?tkr11048
        case tky11048 => (intro w' hSw; clear hSw; go_simp; try with_reducible rfl)
        try simp only [Act.put, List.setIfInBounds_toArray, List.set_cons_zero, List.set_cons_succ]
        refine wpAnyH_take (i := 48) (oi := { dst := some 123, op := Op.pick (Operand.tmp 120) (Operand.tmp 122) (Operand.const (Value.bool false)), type := 4, pos := "law.go:48", after := #[{ on := 45, ground := Ground.data }, { on := 47, ground := Ground.data }], guard := none }) (v := ?tkv11049) rfl (by kernel_rfl) (by kernel_rfl) (by kernel_rfl) (fun _ _ _ h => h) (Or.inl ⟨by rfl, ?tky11049⟩) hH11006 ?tkr11049
        case tky11049 => (intro w' hSw; clear hSw; go_simp; try with_reducible rfl)
        try simp only [Act.put, List.setIfInBounds_toArray, List.set_cons_zero, List.set_cons_succ]
        refine wpAnyH_take (i := 49) (oi := { dst := some 124, op := Op.move (Operand.tmp 123), type := 4, pos := "law.go:48", after := #[{ on := 48, ground := Ground.data }, { on := 45, ground := Ground.chain }], guard := none }) (v := ?tkv11050) rfl (by kernel_rfl) (by kernel_rfl) (by kernel_rfl) (fun _ _ _ h => h) (Or.inl ⟨by rfl, ?tky11050⟩) hH11006 ?tkr11050
        case tky11050 => (intro w' hSw; clear hSw; go_simp; try with_reducible rfl)
        try simp only [Act.put, List.setIfInBounds_toArray, List.set_cons_zero, List.set_cons_succ]
        refine wpAnyH_ready (rs := [50]) (by kernel_rfl) (by simp) ?_
        refine AllReadyH.cons (o := { dst := some 125, op := Op.call { callee := Callee.value (Operand.func 23), args := #[], argTypes := #[] }, type := 4, pos := "law.go:48", after := #[{ on := 49, ground := Ground.chain }, { on := 49, ground := Ground.guard }], guard := some (49, true) }) rfl (fun K hK => ?_) AllReadyH.nil
        go_simp
        refine (awake22_any wn11006).mono ?_
        rintro e' wn11051 ⟨rfl, hb11051⟩
        go_simp
        have hS11051 : Below (wC.heap.size) wC wn11051 := (hH11006).trans (hb11051.mono (hH11006).size)
        refine hK.out _ _ hS11051 (fun hH11051 => ?_)
        have hH11051 : Below (wC.heap.size) wC wn11051 := hH11051
        clear hK K hS11051
        try simp only [Act.put, List.setIfInBounds_toArray, List.set_cons_zero, List.set_cons_succ]
        refine wpAnyH_take (i := 51) (oi := { dst := some 126, op := Op.pick (Operand.tmp 124) (Operand.tmp 125) (Operand.const (Value.bool false)), type := 4, pos := "law.go:48", after := #[{ on := 49, ground := Ground.data }, { on := 50, ground := Ground.data }], guard := none }) (v := ?tkv11052) rfl (by kernel_rfl) (by kernel_rfl) (by kernel_rfl) (fun _ _ _ h => h) (Or.inl ⟨by rfl, ?tky11052⟩) hH11051 ?tkr11052
        case tky11052 => (intro w' hSw; clear hSw; go_simp; try with_reducible rfl)
        try simp only [Act.put, List.setIfInBounds_toArray, List.set_cons_zero, List.set_cons_succ]
        refine wpAnyH_take (i := 52) (oi := { dst := some 4, op := Op.assign (Operand.tmp 126), type := 4, pos := "law.go:48", after := #[{ on := 51, ground := Ground.data }, { on := 50, ground := Ground.chain }, { on := 0, ground := Ground.phase }, { on := 1, ground := Ground.phase }, { on := 2, ground := Ground.phase }, { on := 3, ground := Ground.phase }, { on := 4, ground := Ground.phase }, { on := 5, ground := Ground.phase }, { on := 6, ground := Ground.phase }, { on := 7, ground := Ground.phase }, { on := 8, ground := Ground.phase }, { on := 9, ground := Ground.phase }, { on := 10, ground := Ground.phase }, { on := 11, ground := Ground.phase }, { on := 12, ground := Ground.phase }, { on := 13, ground := Ground.phase }, { on := 14, ground := Ground.phase }, { on := 15, ground := Ground.phase }, { on := 16, ground := Ground.phase }, { on := 17, ground := Ground.phase }, { on := 18, ground := Ground.phase }, { on := 19, ground := Ground.phase }, { on := 20, ground := Ground.phase }, { on := 21, ground := Ground.phase }, { on := 22, ground := Ground.phase }, { on := 23, ground := Ground.phase }, { on := 24, ground := Ground.phase }, { on := 25, ground := Ground.phase }, { on := 26, ground := Ground.phase }, { on := 27, ground := Ground.phase }, { on := 28, ground := Ground.phase }, { on := 29, ground := Ground.phase }, { on := 30, ground := Ground.phase }, { on := 31, ground := Ground.phase }, { on := 32, ground := Ground.phase }, { on := 33, ground := Ground.phase }, { on := 34, ground := Ground.phase }, { on := 35, ground := Ground.phase }, { on := 36, ground := Ground.phase }, { on := 37, ground := Ground.phase }, { on := 38, ground := Ground.phase }, { on := 39, ground := Ground.phase }, { on := 40, ground := Ground.phase }, { on := 41, ground := Ground.phase }, { on := 42, ground := Ground.phase }, { on := 43, ground := Ground.phase }, { on := 44, ground := Ground.phase }, { on := 45, ground := Ground.phase }, { on := 46, ground := Ground.phase }, { on := 47, ground := Ground.phase }, { on := 48, ground := Ground.phase }, { on := 49, ground := Ground.phase }, { on := 50, ground := Ground.phase }, { on := 51, ground := Ground.phase }], guard := none }) (v := ?tkv11053) rfl (by kernel_rfl) (by kernel_rfl) (by kernel_rfl) (fun _ _ _ h => h) (Or.inl ⟨by rfl, ?tky11053⟩) hH11051 ?tkr11053
        case tky11053 => (intro w' hSw; clear hSw; go_simp; try with_reducible rfl)
        try simp only [Act.put, List.setIfInBounds_toArray, List.set_cons_zero, List.set_cons_succ]
        refine wpAnyH_done (by kernel_rfl) ?_ _
        refine NoPanic.normal ?_
        have HEND := Lib.hid ((HE.out _ (hH11051)).b)
        go_wp2_with fail
        go_ret
        exact ⟨rfl, HEND.out⟩
    · have HV2 : Hid ((L.v1 : Int) < (M.v : Int)) := Lib.hid (by have := N2.out; rw [if_neg (by decide)] at this; omega)
      have FAV := FA1
      clear FA0 FA1 HACT N2
      cases on with
      | true =>
        have HV3 : Hid ((L.m.v : Int) < (M.v : Int)) := Lib.hid (by have := N3.out rfl; omega)
        refine wp_region_noPanic ?_
        refine wp_region_held_drew (S := (fun W => Below (wC.heap.size) wC W)) (by kernel_rfl) (Below.refl _ _).drew (fun hH0 => ?_)
        have hH0 : Below (wC.heap.size) wC wC.drew := hH0
        generalize wC.drew = wd12000 at *
        refine wpAnyH_take (i := 0) (oi := { dst := some 75, op := Op.load 30 (Operand.tmp 5), type := 30, pos := "law.go:48", after := #[], guard := none }) (v := .agg c1) rfl (by kernel_rfl) (by kernel_rfl) (by kernel_rfl) (fun _ _ _ h => h) (yields_row (by rfl) _ _ rfl w2.heap.size rfl _ _ _ _ (fun W hW => (HE.out W hW).bx _ _ _ (.tail _ (.head _))) Try.underlying30 rfl I1.out) hH0 ?tkr12001
        try simp only [Act.put, List.setIfInBounds_toArray, List.set_cons_zero, List.set_cons_succ]
        refine wpAnyH_ready (rs := [1]) (by kernel_rfl) (by simp) ?_
        refine AllReadyH.cons (o := { dst := some 76, op := Op.call { callee := Callee.value (Operand.func 17), args := #[Operand.tmp 75], argTypes := #[30] }, type := 4, pos := "law.go:48", after := #[{ on := 0, ground := Ground.data }], guard := none }) rfl (fun K hK => ?_) AllReadyH.nil
        go_simp
        refine (mayS ((HE.out wd12000 (hH0)).st _ _ (.tail _ (.head _)))).mono ?_
        rintro e' wn12002 ⟨rfl, hb12002⟩
        rw [HMAY.out]
        go_simp
        have hS12002 : Below (wC.heap.size) wC wn12002 := (hH0).trans (hb12002.mono (hH0).size)
        refine hK.out _ _ hS12002 (fun hH12002 => ?_)
        have hH12002 : Below (wC.heap.size) wC wn12002 := hH12002
        clear hK K hS12002
        try simp only [Act.put, List.setIfInBounds_toArray, List.set_cons_zero, List.set_cons_succ]
        refine wpAnyH_take (i := 2) (oi := { dst := some 77, op := Op.move (Operand.tmp 76), type := 4, pos := "law.go:48", after := #[{ on := 1, ground := Ground.data }, { on := 1, ground := Ground.chain }], guard := none }) (v := ?tkv12003) rfl (by kernel_rfl) (by kernel_rfl) (by kernel_rfl) (fun _ _ _ h => h) (Or.inl ⟨by rfl, ?tky12003⟩) hH12002 ?tkr12003
        case tky12003 => (intro w' hSw; clear hSw; go_simp; try with_reducible rfl)
        try simp only [Act.put, List.setIfInBounds_toArray, List.set_cons_zero, List.set_cons_succ]
        refine wpAnyH_take (i := 3) (oi := { dst := some 78, op := Op.load 30 (Operand.tmp 5), type := 30, pos := "law.go:48", after := #[{ on := 2, ground := Ground.guard }], guard := some (2, true) }) (v := .agg c1) rfl (by kernel_rfl) (by kernel_rfl) (by kernel_rfl) (fun _ _ _ h => h) (yields_row (by rfl) _ _ rfl w2.heap.size rfl _ _ _ _ (fun W hW => (HE.out W hW).bx _ _ _ (.tail _ (.head _))) Try.underlying30 rfl I1.out) hH12002 ?tkr12004
        try simp only [Act.put, List.setIfInBounds_toArray, List.set_cons_zero, List.set_cons_succ]
        refine wpAnyH_take (i := 4) (oi := { dst := some 79, op := Op.load 30 (Operand.tmp 9), type := 30, pos := "law.go:48", after := #[{ on := 2, ground := Ground.guard }], guard := some (2, true) }) (v := .agg cu) rfl (by kernel_rfl) (by kernel_rfl) (by kernel_rfl) (fun _ _ _ h => h) (yields_row (by rfl) _ _ rfl w5.heap.size rfl _ _ _ _ (fun W hW => (HE.out W hW).bx _ _ _ (.head _)) Try.underlying30 rfl IU.out) hH12002 ?tkr12005
        try simp only [Act.put, List.setIfInBounds_toArray, List.set_cons_zero, List.set_cons_succ]
        refine wpAnyH_ready (rs := [5]) (by kernel_rfl) (by simp) ?_
        refine AllReadyH.cons (o := { dst := some 80, op := Op.call { callee := Callee.value (Operand.func 19), args := #[Operand.tmp 78, Operand.tmp 79], argTypes := #[30, 30] }, type := 4, pos := "law.go:48", after := #[{ on := 3, ground := Ground.data }, { on := 4, ground := Ground.data }, { on := 2, ground := Ground.chain }, { on := 2, ground := Ground.guard }], guard := some (2, true) }) rfl (fun K hK => ?_) AllReadyH.nil
        go_simp
        refine (sameS ((HE.out wn12002 (hH12002)).st _ _ (.tail _ (.head _))) ((HE.out wn12002 (hH12002)).st _ _ (.head _))).mono ?_
        rintro e' wn12006 ⟨rfl, hb12006⟩
        rw [HEQ.out]
        go_simp
        have hS12006 : Below (wC.heap.size) wC wn12006 := (hH12002).trans (hb12006.mono (hH12002).size)
        refine hK.out _ _ hS12006 (fun hH12006 => ?_)
        have hH12006 : Below (wC.heap.size) wC wn12006 := hH12006
        clear hK K hS12006
        try simp only [Act.put, List.setIfInBounds_toArray, List.set_cons_zero, List.set_cons_succ]
        refine wpAnyH_take (i := 6) (oi := { dst := some 81, op := Op.pick (Operand.tmp 77) (Operand.tmp 80) (Operand.const (Value.bool false)), type := 4, pos := "law.go:48", after := #[{ on := 2, ground := Ground.data }, { on := 5, ground := Ground.data }], guard := none }) (v := ?tkv12007) rfl (by kernel_rfl) (by kernel_rfl) (by kernel_rfl) (fun _ _ _ h => h) (Or.inl ⟨by rfl, ?tky12007⟩) hH12006 ?tkr12007
        case tky12007 => (intro w' hSw; clear hSw; go_simp; try with_reducible rfl)
        try simp only [Act.put, List.setIfInBounds_toArray, List.set_cons_zero, List.set_cons_succ]
        refine wpAnyH_take (i := 7) (oi := { dst := some 82, op := Op.move (Operand.tmp 81), type := 4, pos := "law.go:48", after := #[{ on := 6, ground := Ground.data }, { on := 5, ground := Ground.chain }], guard := none }) (v := ?tkv12008) rfl (by kernel_rfl) (by kernel_rfl) (by kernel_rfl) (fun _ _ _ h => h) (Or.inl ⟨by rfl, ?tky12008⟩) hH12006 ?tkr12008
        case tky12008 => (intro w' hSw; clear hSw; go_simp; try with_reducible rfl)
        try simp only [Act.put, List.setIfInBounds_toArray, List.set_cons_zero, List.set_cons_succ]
        refine wpAnyH_take (i := 8) (oi := { dst := some 83, op := Op.fieldAddr 28 (Operand.tmp 3) 1, type := 0, pos := "law.go:48", after := #[{ on := 7, ground := Ground.guard }], guard := some (7, true) }) (v := ?tkv12009) rfl (by kernel_rfl) (by kernel_rfl) (by kernel_rfl) (fun _ _ _ h => h) (Or.inl ⟨by rfl, ?tky12009⟩) hH12006 ?tkr12009
        case tky12009 => (intro w' hSw; clear hSw; go_simp; try with_reducible rfl)
        try simp only [Act.put, List.setIfInBounds_toArray, List.set_cons_zero, List.set_cons_succ]
        refine wpAnyH_take (i := 9) (oi := { dst := some 84, op := Op.load 22 (Operand.tmp 83), type := 22, pos := "law.go:48", after := #[{ on := 8, ground := Ground.data }, { on := 7, ground := Ground.guard }], guard := some (7, true) }) (v := ?tkv12010) rfl (by kernel_rfl) (by kernel_rfl) (by kernel_rfl) (fun _ _ _ h => h) (Or.inl ⟨by rfl, ?tky12010⟩) hH12006 ?tkr12010
        case tky12010 => (intro w' hSw; have z0 := F31.out _ hSw; have z1 := F22.out _ hSw; have z2 := F20.out _ hSw; have z3 := FAV.out _ hSw; have z4 := F2o.out _ hSw; have z5 := F2v.out _ hSw; have z6 := F53.out _ hSw; have z7 := F23.out _ hSw; clear hSw; go_simp; try with_reducible rfl)
        try simp only [Act.put, List.setIfInBounds_toArray, List.set_cons_zero, List.set_cons_succ]
        refine wpAnyH_take (i := 10) (oi := { dst := some 85, op := Op.fieldAddr 30 (Operand.tmp 2) 2, type := 0, pos := "law.go:48", after := #[{ on := 7, ground := Ground.guard }], guard := some (7, true) }) (v := ?tkv12011) rfl (by kernel_rfl) (by kernel_rfl) (by kernel_rfl) (fun _ _ _ h => h) (Or.inl ⟨by rfl, ?tky12011⟩) hH12006 ?tkr12011
        case tky12011 => (intro w' hSw; clear hSw; go_simp; try with_reducible rfl)
        try simp only [Act.put, List.setIfInBounds_toArray, List.set_cons_zero, List.set_cons_succ]
        refine wpAnyH_take (i := 11) (oi := { dst := some 86, op := Op.load 22 (Operand.tmp 85), type := 22, pos := "law.go:48", after := #[{ on := 10, ground := Ground.data }, { on := 7, ground := Ground.guard }], guard := some (7, true) }) (v := ?tkv12012) rfl (by kernel_rfl) (by kernel_rfl) (by kernel_rfl) (fun _ _ _ h => h) (Or.inl ⟨by rfl, ?tky12012⟩) hH12006 ?tkr12012
        case tky12012 => (intro w' hSw; have z0 := F31.out _ hSw; have z1 := F22.out _ hSw; have z2 := F20.out _ hSw; have z3 := FAV.out _ hSw; have z4 := F2o.out _ hSw; have z5 := F2v.out _ hSw; have z6 := F53.out _ hSw; have z7 := F23.out _ hSw; clear hSw; go_simp; try with_reducible rfl)
        try simp only [Act.put, List.setIfInBounds_toArray, List.set_cons_zero, List.set_cons_succ]
        refine wpAnyH_take (i := 12) (oi := { dst := some 87, op := Op.binOp BinOp.gtr 22 (Operand.tmp 84) (Operand.tmp 86) 22, type := 4, pos := "law.go:48", after := #[{ on := 9, ground := Ground.data }, { on := 11, ground := Ground.data }, { on := 7, ground := Ground.guard }], guard := some (7, true) }) (v := ?tkv12013) rfl (by kernel_rfl) (by kernel_rfl) (by kernel_rfl) (fun _ _ _ h => h) (Or.inl ⟨by rfl, ?tky12013⟩) hH12006 ?tkr12013
        case tky12013 => (intro w' hSw; have q1 := HV1.out; clear hSw; go_simp; try with_reducible rfl)
        try simp only [Act.put, List.setIfInBounds_toArray, List.set_cons_zero, List.set_cons_succ]
        refine wpAnyH_take (i := 13) (oi := { dst := some 88, op := Op.pick (Operand.tmp 82) (Operand.tmp 87) (Operand.const (Value.bool false)), type := 4, pos := "law.go:48", after := #[{ on := 7, ground := Ground.data }, { on := 12, ground := Ground.data }], guard := none }) (v := ?tkv12014) rfl (by kernel_rfl) (by kernel_rfl) (by kernel_rfl) (fun _ _ _ h => h) (Or.inl ⟨by rfl, ?tky12014⟩) hH12006 ?tkr12014
        case tky12014 => (intro w' hSw; clear hSw; go_simp; try with_reducible rfl)
        try simp only [Act.put, List.setIfInBounds_toArray, List.set_cons_zero, List.set_cons_succ]
        refine wpAnyH_take (i := 14) (oi := { dst := some 89, op := Op.move (Operand.tmp 88), type := 4, pos := "law.go:48", after := #[{ on := 13, ground := Ground.data }, { on := 7, ground := Ground.chain }], guard := none }) (v := ?tkv12015) rfl (by kernel_rfl) (by kernel_rfl) (by kernel_rfl) (fun _ _ _ h => h) (Or.inl ⟨by rfl, ?tky12015⟩) hH12006 ?tkr12015
        case tky12015 => (intro w' hSw; clear hSw; go_simp; try with_reducible rfl)
        try simp only [Act.put, List.setIfInBounds_toArray, List.set_cons_zero, List.set_cons_succ]
        refine wpAnyH_take (i := 15) (oi := { dst := some 90, op := Op.fieldAddr 28 (Operand.tmp 3) 1, type := 0, pos := "law.go:48", after := #[{ on := 14, ground := Ground.guard }], guard := some (14, true) }) (v := ?tkv12016) rfl (by kernel_rfl) (by kernel_rfl) (by kernel_rfl) (fun _ _ _ h => h) (Or.inl ⟨by rfl, ?tky12016⟩) hH12006 ?tkr12016
        case tky12016 => (intro w' hSw; clear hSw; go_simp; try with_reducible rfl)
        try simp only [Act.put, List.setIfInBounds_toArray, List.set_cons_zero, List.set_cons_succ]
        refine wpAnyH_take (i := 16) (oi := { dst := some 91, op := Op.load 22 (Operand.tmp 90), type := 22, pos := "law.go:48", after := #[{ on := 15, ground := Ground.data }, { on := 14, ground := Ground.guard }], guard := some (14, true) }) (v := ?tkv12017) rfl (by kernel_rfl) (by kernel_rfl) (by kernel_rfl) (fun _ _ _ h => h) (Or.inl ⟨by rfl, ?tky12017⟩) hH12006 ?tkr12017
        case tky12017 => (intro w' hSw; have z0 := F31.out _ hSw; have z1 := F22.out _ hSw; have z2 := F20.out _ hSw; have z3 := FAV.out _ hSw; have z4 := F2o.out _ hSw; have z5 := F2v.out _ hSw; have z6 := F53.out _ hSw; have z7 := F23.out _ hSw; clear hSw; go_simp; try with_reducible rfl)
        try simp only [Act.put, List.setIfInBounds_toArray, List.set_cons_zero, List.set_cons_succ]
        refine wpAnyH_take (i := 17) (oi := { dst := some 92, op := Op.fieldAddr 30 (Operand.tmp 2) 0, type := 0, pos := "law.go:48", after := #[{ on := 14, ground := Ground.guard }], guard := some (14, true) }) (v := ?tkv12018) rfl (by kernel_rfl) (by kernel_rfl) (by kernel_rfl) (fun _ _ _ h => h) (Or.inl ⟨by rfl, ?tky12018⟩) hH12006 ?tkr12018
        case tky12018 => (intro w' hSw; clear hSw; go_simp; try with_reducible rfl)
        try simp only [Act.put, List.setIfInBounds_toArray, List.set_cons_zero, List.set_cons_succ]
        refine wpAnyH_take (i := 18) (oi := { dst := some 93, op := Op.load 3 (Operand.tmp 92), type := 3, pos := "law.go:48", after := #[{ on := 17, ground := Ground.data }, { on := 14, ground := Ground.guard }], guard := some (14, true) }) (v := ?tkv12019) rfl (by kernel_rfl) (by kernel_rfl) (by kernel_rfl) (fun _ _ _ h => h) (Or.inl ⟨by rfl, ?tky12019⟩) hH12006 ?tkr12019
        case tky12019 => (intro w' hSw; have z0 := F31.out _ hSw; have z1 := F22.out _ hSw; have z2 := F20.out _ hSw; have z3 := FAV.out _ hSw; have z4 := F2o.out _ hSw; have z5 := F2v.out _ hSw; have z6 := F53.out _ hSw; have z7 := F23.out _ hSw; clear hSw; go_simp; try with_reducible rfl)
        try simp only [Act.put, List.setIfInBounds_toArray, List.set_cons_zero, List.set_cons_succ]
        refine wpAnyH_take (i := 19) (oi := { dst := some 94, op := Op.fieldAddr 30 (Operand.tmp 2) 4, type := 0, pos := "law.go:48", after := #[{ on := 14, ground := Ground.guard }], guard := some (14, true) }) (v := ?tkv12020) rfl (by kernel_rfl) (by kernel_rfl) (by kernel_rfl) (fun _ _ _ h => h) (Or.inl ⟨by rfl, ?tky12020⟩) hH12006 ?tkr12020
        case tky12020 => (intro w' hSw; clear hSw; go_simp; try with_reducible rfl)
        try simp only [Act.put, List.setIfInBounds_toArray, List.set_cons_zero, List.set_cons_succ]
        refine wpAnyH_take (i := 20) (oi := { dst := some 95, op := Op.indexAddr 26 (Operand.tmp 94) (Operand.tmp 93), type := 0, pos := "law.go:48", after := #[{ on := 19, ground := Ground.data }, { on := 18, ground := Ground.data }, { on := 14, ground := Ground.guard }], guard := some (14, true) }) (v := ?tkv12021) rfl (by kernel_rfl) (by kernel_rfl) (by kernel_rfl) (fun _ _ _ h => h) (Or.inl ⟨by rfl, ?tky12021⟩) hH12006 ?tkr12021
        case tky12021 => (intro w' hSw; clear hSw; go_simp; try with_reducible rfl)
        try simp only [Act.put, List.setIfInBounds_toArray, List.set_cons_zero, List.set_cons_succ]
        refine wpAnyH_take (i := 21) (oi := { dst := some 96, op := Op.fieldAddr 25 (Operand.tmp 95) 0, type := 0, pos := "law.go:48", after := #[{ on := 20, ground := Ground.data }, { on := 14, ground := Ground.guard }], guard := some (14, true) }) (v := ?tkv12022) rfl (by kernel_rfl) (by kernel_rfl) (by kernel_rfl) (fun _ _ _ h => h) (Or.inl ⟨by rfl, ?tky12022⟩) hH12006 ?tkr12022
        case tky12022 => (intro w' hSw; clear hSw; go_simp; try with_reducible rfl)
        try simp only [Act.put, List.setIfInBounds_toArray, List.set_cons_zero, List.set_cons_succ]
        refine wpAnyH_take (i := 22) (oi := { dst := some 97, op := Op.load 22 (Operand.tmp 96), type := 22, pos := "law.go:48", after := #[{ on := 21, ground := Ground.data }, { on := 14, ground := Ground.guard }], guard := some (14, true) }) (v := ?tkv12023) rfl (by kernel_rfl) (by kernel_rfl) (by kernel_rfl) (fun _ _ _ h => h) (Or.inl ⟨by rfl, ?tky12023⟩) hH12006 ?tkr12023
        case tky12023 => (intro w' hSw; have z0 := F31.out _ hSw; have z1 := F22.out _ hSw; have z2 := F20.out _ hSw; have z3 := FAV.out _ hSw; have z4 := F2o.out _ hSw; have z5 := F2v.out _ hSw; have z6 := F53.out _ hSw; have z7 := F23.out _ hSw; clear hSw; go_simp; try with_reducible rfl)
        try simp only [Act.put, List.setIfInBounds_toArray, List.set_cons_zero, List.set_cons_succ]
        refine wpAnyH_take (i := 23) (oi := { dst := some 98, op := Op.binOp BinOp.gtr 22 (Operand.tmp 91) (Operand.tmp 97) 22, type := 4, pos := "law.go:48", after := #[{ on := 16, ground := Ground.data }, { on := 22, ground := Ground.data }, { on := 14, ground := Ground.guard }], guard := some (14, true) }) (v := ?tkv12024) rfl (by kernel_rfl) (by kernel_rfl) (by kernel_rfl) (fun _ _ _ h => h) (Or.inl ⟨by rfl, ?tky12024⟩) hH12006 ?tkr12024
        case tky12024 => (intro w' hSw; have q1 := HV2.out; clear hSw; go_simp; try with_reducible rfl)
        try simp only [Act.put, List.setIfInBounds_toArray, List.set_cons_zero, List.set_cons_succ]
        refine wpAnyH_take (i := 24) (oi := { dst := some 99, op := Op.pick (Operand.tmp 89) (Operand.tmp 98) (Operand.const (Value.bool false)), type := 4, pos := "law.go:48", after := #[{ on := 14, ground := Ground.data }, { on := 23, ground := Ground.data }], guard := none }) (v := ?tkv12025) rfl (by kernel_rfl) (by kernel_rfl) (by kernel_rfl) (fun _ _ _ h => h) (Or.inl ⟨by rfl, ?tky12025⟩) hH12006 ?tkr12025
        case tky12025 => (intro w' hSw; clear hSw; go_simp; try with_reducible rfl)
        try simp only [Act.put, List.setIfInBounds_toArray, List.set_cons_zero, List.set_cons_succ]
        refine wpAnyH_take (i := 25) (oi := { dst := some 100, op := Op.move (Operand.tmp 99), type := 4, pos := "law.go:48", after := #[{ on := 24, ground := Ground.data }, { on := 14, ground := Ground.chain }], guard := none }) (v := ?tkv12026) rfl (by kernel_rfl) (by kernel_rfl) (by kernel_rfl) (fun _ _ _ h => h) (Or.inl ⟨by rfl, ?tky12026⟩) hH12006 ?tkr12026
        case tky12026 => (intro w' hSw; clear hSw; go_simp; try with_reducible rfl)
        try simp only [Act.put, List.setIfInBounds_toArray, List.set_cons_zero, List.set_cons_succ]
        refine wpAnyH_take (i := 26) (oi := { dst := some 101, op := Op.fieldAddr 30 (Operand.tmp 2) 5, type := 0, pos := "law.go:48", after := #[{ on := 25, ground := Ground.guard }], guard := some (25, true) }) (v := ?tkv12027) rfl (by kernel_rfl) (by kernel_rfl) (by kernel_rfl) (fun _ _ _ h => h) (Or.inl ⟨by rfl, ?tky12027⟩) hH12006 ?tkr12027
        case tky12027 => (intro w' hSw; clear hSw; go_simp; try with_reducible rfl)
        try simp only [Act.put, List.setIfInBounds_toArray, List.set_cons_zero, List.set_cons_succ]
        refine wpAnyH_take (i := 27) (oi := { dst := some 102, op := Op.load 4 (Operand.tmp 101), type := 4, pos := "law.go:48", after := #[{ on := 26, ground := Ground.data }, { on := 25, ground := Ground.guard }], guard := some (25, true) }) (v := ?tkv12028) rfl (by kernel_rfl) (by kernel_rfl) (by kernel_rfl) (fun _ _ _ h => h) (Or.inl ⟨by rfl, ?tky12028⟩) hH12006 ?tkr12028
        case tky12028 => (intro w' hSw; have z0 := F31.out _ hSw; have z1 := F22.out _ hSw; have z2 := F20.out _ hSw; have z3 := FAV.out _ hSw; have z4 := F2o.out _ hSw; have z5 := F2v.out _ hSw; have z6 := F53.out _ hSw; have z7 := F23.out _ hSw; clear hSw; go_simp; try with_reducible rfl)
        try simp only [Act.put, List.setIfInBounds_toArray, List.set_cons_zero, List.set_cons_succ]
        refine wpAnyH_take (i := 28) (oi := { dst := some 103, op := Op.unOp UnOp.not 4 (Operand.tmp 102), type := 4, pos := "law.go:48", after := #[{ on := 27, ground := Ground.data }, { on := 25, ground := Ground.guard }], guard := some (25, true) }) (v := ?tkv12029) rfl (by kernel_rfl) (by kernel_rfl) (by kernel_rfl) (fun _ _ _ h => h) (Or.inl ⟨by rfl, ?tky12029⟩) hH12006 ?tkr12029
        case tky12029 => (intro w' hSw; clear hSw; go_simp; try with_reducible rfl)
        try simp only [Act.put, List.setIfInBounds_toArray, List.set_cons_zero, List.set_cons_succ]
        refine wpAnyH_take (i := 29) (oi := { dst := some 104, op := Op.move (Operand.tmp 103), type := 4, pos := "law.go:48", after := #[{ on := 28, ground := Ground.data }, { on := 25, ground := Ground.chain }, { on := 25, ground := Ground.guard }], guard := some (25, true) }) (v := ?tkv12030) rfl (by kernel_rfl) (by kernel_rfl) (by kernel_rfl) (fun _ _ _ h => h) (Or.inl ⟨by rfl, ?tky12030⟩) hH12006 ?tkr12030
        case tky12030 => (intro w' hSw; clear hSw; go_simp; try with_reducible rfl)
        try simp only [Act.put, List.setIfInBounds_toArray, List.set_cons_zero, List.set_cons_succ]
        refine wpAnyH_take (i := 30) (oi := { dst := some 105, op := Op.fieldAddr 28 (Operand.tmp 3) 1, type := 0, pos := "law.go:48", after := #[{ on := 29, ground := Ground.guard }], guard := some (29, false) }) (v := ?tkv12031) rfl (by kernel_rfl) (by kernel_rfl) (by kernel_rfl) (fun _ _ _ h => h) (Or.inl ⟨by rfl, ?tky12031⟩) hH12006 ?tkr12031
        case tky12031 => (intro w' hSw; clear hSw; go_simp; try with_reducible rfl)
        try simp only [Act.put, List.setIfInBounds_toArray, List.set_cons_zero, List.set_cons_succ]
        refine wpAnyH_take (i := 31) (oi := { dst := some 106, op := Op.load 22 (Operand.tmp 105), type := 22, pos := "law.go:48", after := #[{ on := 30, ground := Ground.data }, { on := 29, ground := Ground.guard }], guard := some (29, false) }) (v := ?tkv12032) rfl (by kernel_rfl) (by kernel_rfl) (by kernel_rfl) (fun _ _ _ h => h) (Or.inl ⟨by rfl, ?tky12032⟩) hH12006 ?tkr12032
        case tky12032 => (intro w' hSw; have z0 := F31.out _ hSw; have z1 := F22.out _ hSw; have z2 := F20.out _ hSw; have z3 := FAV.out _ hSw; have z4 := F2o.out _ hSw; have z5 := F2v.out _ hSw; have z6 := F53.out _ hSw; have z7 := F23.out _ hSw; clear hSw; go_simp; try with_reducible rfl)
        try simp only [Act.put, List.setIfInBounds_toArray, List.set_cons_zero, List.set_cons_succ]
        refine wpAnyH_take (i := 32) (oi := { dst := some 107, op := Op.fieldAddr 30 (Operand.tmp 2) 6, type := 0, pos := "law.go:48", after := #[{ on := 29, ground := Ground.guard }], guard := some (29, false) }) (v := ?tkv12033) rfl (by kernel_rfl) (by kernel_rfl) (by kernel_rfl) (fun _ _ _ h => h) (Or.inl ⟨by rfl, ?tky12033⟩) hH12006 ?tkr12033
        case tky12033 => (intro w' hSw; clear hSw; go_simp; try with_reducible rfl)
        try simp only [Act.put, List.setIfInBounds_toArray, List.set_cons_zero, List.set_cons_succ]
        refine wpAnyH_take (i := 33) (oi := { dst := some 108, op := Op.fieldAddr 28 (Operand.tmp 107) 1, type := 0, pos := "law.go:48", after := #[{ on := 32, ground := Ground.data }, { on := 29, ground := Ground.guard }], guard := some (29, false) }) (v := ?tkv12034) rfl (by kernel_rfl) (by kernel_rfl) (by kernel_rfl) (fun _ _ _ h => h) (Or.inl ⟨by rfl, ?tky12034⟩) hH12006 ?tkr12034
        case tky12034 => (intro w' hSw; clear hSw; go_simp; try with_reducible rfl)
        try simp only [Act.put, List.setIfInBounds_toArray, List.set_cons_zero, List.set_cons_succ]
        refine wpAnyH_take (i := 34) (oi := { dst := some 109, op := Op.load 22 (Operand.tmp 108), type := 22, pos := "law.go:48", after := #[{ on := 33, ground := Ground.data }, { on := 29, ground := Ground.guard }], guard := some (29, false) }) (v := ?tkv12035) rfl (by kernel_rfl) (by kernel_rfl) (by kernel_rfl) (fun _ _ _ h => h) (Or.inl ⟨by rfl, ?tky12035⟩) hH12006 ?tkr12035
        case tky12035 => (intro w' hSw; have z0 := F31.out _ hSw; have z1 := F22.out _ hSw; have z2 := F20.out _ hSw; have z3 := FAV.out _ hSw; have z4 := F2o.out _ hSw; have z5 := F2v.out _ hSw; have z6 := F53.out _ hSw; have z7 := F23.out _ hSw; clear hSw; go_simp; try with_reducible rfl)
        try simp only [Act.put, List.setIfInBounds_toArray, List.set_cons_zero, List.set_cons_succ]
        refine wpAnyH_take (i := 35) (oi := { dst := some 110, op := Op.binOp BinOp.gtr 22 (Operand.tmp 106) (Operand.tmp 109) 22, type := 4, pos := "law.go:48", after := #[{ on := 31, ground := Ground.data }, { on := 34, ground := Ground.data }, { on := 29, ground := Ground.guard }], guard := some (29, false) }) (v := ?tkv12036) rfl (by kernel_rfl) (by kernel_rfl) (by kernel_rfl) (fun _ _ _ h => h) (Or.inl ⟨by rfl, ?tky12036⟩) hH12006 ?tkr12036
        case tky12036 => (intro w' hSw; have q1 := HV3.out; clear hSw; go_simp; try with_reducible rfl)
        try simp only [Act.put, List.setIfInBounds_toArray, List.set_cons_zero, List.set_cons_succ]
        refine wpAnyH_take (i := 36) (oi := { dst := some 111, op := Op.pick (Operand.tmp 104) (Operand.const (Value.bool true)) (Operand.tmp 110), type := 4, pos := "law.go:48", after := #[{ on := 29, ground := Ground.data }, { on := 35, ground := Ground.data }, { on := 25, ground := Ground.guard }], guard := some (25, true) }) (v := ?tkv12037) rfl (by kernel_rfl) (by kernel_rfl) (by kernel_rfl) (fun _ _ _ h => h) (Or.inl ⟨by rfl, ?tky12037⟩) hH12006 ?tkr12037
        case tky12037 => (intro w' hSw; clear hSw; go_simp; try with_reducible rfl)
        try simp only [Act.put, List.setIfInBounds_toArray, List.set_cons_zero, List.set_cons_succ]
        refine wpAnyH_take (i := 37) (oi := { dst := some 112, op := Op.pick (Operand.tmp 100) (Operand.tmp 111) (Operand.const (Value.bool false)), type := 4, pos := "law.go:48", after := #[{ on := 25, ground := Ground.data }, { on := 36, ground := Ground.data }], guard := none }) (v := ?tkv12038) rfl (by kernel_rfl) (by kernel_rfl) (by kernel_rfl) (fun _ _ _ h => h) (Or.inl ⟨by rfl, ?tky12038⟩) hH12006 ?tkr12038
        case tky12038 => (intro w' hSw; clear hSw; go_simp; try with_reducible rfl)
        try simp only [Act.put, List.setIfInBounds_toArray, List.set_cons_zero, List.set_cons_succ]
        refine wpAnyH_take (i := 38) (oi := { dst := some 113, op := Op.move (Operand.tmp 112), type := 4, pos := "law.go:48", after := #[{ on := 37, ground := Ground.data }, { on := 29, ground := Ground.chain }], guard := none }) (v := ?tkv12039) rfl (by kernel_rfl) (by kernel_rfl) (by kernel_rfl) (fun _ _ _ h => h) (Or.inl ⟨by rfl, ?tky12039⟩) hH12006 ?tkr12039
        case tky12039 => (intro w' hSw; clear hSw; go_simp; try with_reducible rfl)
        try simp only [Act.put, List.setIfInBounds_toArray, List.set_cons_zero, List.set_cons_succ]
        refine wpAnyH_take (i := 39) (oi := { dst := some 114, op := Op.fieldAddr 30 (Operand.tmp 5) 3, type := 0, pos := "law.go:48", after := #[{ on := 38, ground := Ground.guard }], guard := some (38, true) }) (v := ?tkv12040) rfl (by kernel_rfl) (by kernel_rfl) (by kernel_rfl) (fun _ _ _ h => h) (Or.inl ⟨by rfl, ?tky12040⟩) hH12006 ?tkr12040
        case tky12040 => (intro w' hSw; clear hSw; go_simp; try with_reducible rfl)
        try simp only [Act.put, List.setIfInBounds_toArray, List.set_cons_zero, List.set_cons_succ]
        refine wpAnyH_take (i := 40) (oi := { dst := some 115, op := Op.load 22 (Operand.tmp 114), type := 22, pos := "law.go:48", after := #[{ on := 39, ground := Ground.data }, { on := 38, ground := Ground.guard }], guard := some (38, true) }) (v := ?tkv12041) rfl (by kernel_rfl) (by kernel_rfl) (by kernel_rfl) (fun _ _ _ h => h) (Or.inl ⟨by rfl, ?tky12041⟩) hH12006 ?tkr12041
        case tky12041 => (intro w' hSw; have z0 := F31.out _ hSw; have z1 := F22.out _ hSw; have z2 := F20.out _ hSw; have z3 := FAV.out _ hSw; have z4 := F2o.out _ hSw; have z5 := F2v.out _ hSw; have z6 := F53.out _ hSw; have z7 := F23.out _ hSw; clear hSw; go_simp; try with_reducible rfl)
        try simp only [Act.put, List.setIfInBounds_toArray, List.set_cons_zero, List.set_cons_succ]
        refine wpAnyH_take (i := 41) (oi := { dst := some 116, op := Op.fieldAddr 30 (Operand.tmp 2) 3, type := 0, pos := "law.go:48", after := #[{ on := 38, ground := Ground.guard }], guard := some (38, true) }) (v := ?tkv12042) rfl (by kernel_rfl) (by kernel_rfl) (by kernel_rfl) (fun _ _ _ h => h) (Or.inl ⟨by rfl, ?tky12042⟩) hH12006 ?tkr12042
        case tky12042 => (intro w' hSw; clear hSw; go_simp; try with_reducible rfl)
        try simp only [Act.put, List.setIfInBounds_toArray, List.set_cons_zero, List.set_cons_succ]
        refine wpAnyH_take (i := 42) (oi := { dst := some 117, op := Op.load 22 (Operand.tmp 116), type := 22, pos := "law.go:48", after := #[{ on := 41, ground := Ground.data }, { on := 38, ground := Ground.guard }], guard := some (38, true) }) (v := ?tkv12043) rfl (by kernel_rfl) (by kernel_rfl) (by kernel_rfl) (fun _ _ _ h => h) (Or.inl ⟨by rfl, ?tky12043⟩) hH12006 ?tkr12043
        case tky12043 => (intro w' hSw; have z0 := F31.out _ hSw; have z1 := F22.out _ hSw; have z2 := F20.out _ hSw; have z3 := FAV.out _ hSw; have z4 := F2o.out _ hSw; have z5 := F2v.out _ hSw; have z6 := F53.out _ hSw; have z7 := F23.out _ hSw; clear hSw; go_simp; try with_reducible rfl)
        try simp only [Act.put, List.setIfInBounds_toArray, List.set_cons_zero, List.set_cons_succ]
        refine wpAnyH_take (i := 43) (oi := { dst := some 118, op := Op.binOp BinOp.gtr 22 (Operand.tmp 115) (Operand.tmp 117) 22, type := 4, pos := "law.go:48", after := #[{ on := 40, ground := Ground.data }, { on := 42, ground := Ground.data }, { on := 38, ground := Ground.guard }], guard := some (38, true) }) (v := ?tkv12044) rfl (by kernel_rfl) (by kernel_rfl) (by kernel_rfl) (fun _ _ _ h => h) (Or.inl ⟨by rfl, ?tky12044⟩) hH12006 ?tkr12044
        case tky12044 => (intro w' hSw; have q1 := HV4.out; clear hSw; go_simp; try with_reducible rfl)
        try simp only [Act.put, List.setIfInBounds_toArray, List.set_cons_zero, List.set_cons_succ]
        refine wpAnyH_take (i := 44) (oi := { dst := some 119, op := Op.pick (Operand.tmp 113) (Operand.tmp 118) (Operand.const (Value.bool false)), type := 4, pos := "law.go:48", after := #[{ on := 38, ground := Ground.data }, { on := 43, ground := Ground.data }], guard := none }) (v := ?tkv12045) rfl (by kernel_rfl) (by kernel_rfl) (by kernel_rfl) (fun _ _ _ h => h) (Or.inl ⟨by rfl, ?tky12045⟩) hH12006 ?tkr12045
        case tky12045 => (intro w' hSw; clear hSw; go_simp; try with_reducible rfl)
        try simp only [Act.put, List.setIfInBounds_toArray, List.set_cons_zero, List.set_cons_succ]
        refine wpAnyH_take (i := 45) (oi := { dst := some 120, op := Op.move (Operand.tmp 119), type := 4, pos := "law.go:48", after := #[{ on := 44, ground := Ground.data }, { on := 38, ground := Ground.chain }], guard := none }) (v := ?tkv12046) rfl (by kernel_rfl) (by kernel_rfl) (by kernel_rfl) (fun _ _ _ h => h) (Or.inl ⟨by rfl, ?tky12046⟩) hH12006 ?tkr12046
        case tky12046 => (intro w' hSw; clear hSw; go_simp; try with_reducible rfl)
        try simp only [Act.put, List.setIfInBounds_toArray, List.set_cons_zero, List.set_cons_succ]
        refine wpAnyH_take (i := 46) (oi := { dst := some 121, op := Op.move (Operand.tmp 8), type := 33, pos := "law.go:48", after := #[{ on := 45, ground := Ground.guard }], guard := some (45, true) }) (v := ?tkv12047) rfl (by kernel_rfl) (by kernel_rfl) (by kernel_rfl) (fun _ _ _ h => h) (Or.inl ⟨by rfl, ?tky12047⟩) hH12006 ?tkr12047
        case tky12047 => (intro w' hSw; clear hSw; go_simp; try with_reducible rfl)
        try simp only [Act.put, List.setIfInBounds_toArray, List.set_cons_zero, List.set_cons_succ]
        refine wpAnyH_take (i := 47) (oi := { dst := some 122, op := Op.binOp BinOp.eql 33 (Operand.tmp 121) (Operand.const (Value.int IntKind.i64 8)) 33, type := 4, pos := "law.go:48", after := #[{ on := 46, ground := Ground.data }, { on := 45, ground := Ground.guard }], guard := some (45, true) }) (v := ?tkv12048) rfl (by kernel_rfl) (by kernel_rfl) (by kernel_rfl) (fun _ _ _ h => h) (Or.inl ⟨by rfl, ?tky12048⟩) hH12006 ?tkr12048
        case tky12048 => (intro w' hSw; clear hSw; go_simp; try with_reducible rfl)
        try simp only [Act.put, List.setIfInBounds_toArray, List.set_cons_zero, List.set_cons_succ]
        refine wpAnyH_take (i := 48) (oi := { dst := some 123, op := Op.pick (Operand.tmp 120) (Operand.tmp 122) (Operand.const (Value.bool false)), type := 4, pos := "law.go:48", after := #[{ on := 45, ground := Ground.data }, { on := 47, ground := Ground.data }], guard := none }) (v := ?tkv12049) rfl (by kernel_rfl) (by kernel_rfl) (by kernel_rfl) (fun _ _ _ h => h) (Or.inl ⟨by rfl, ?tky12049⟩) hH12006 ?tkr12049
        case tky12049 => (intro w' hSw; clear hSw; go_simp; try with_reducible rfl)
        try simp only [Act.put, List.setIfInBounds_toArray, List.set_cons_zero, List.set_cons_succ]
        refine wpAnyH_take (i := 49) (oi := { dst := some 124, op := Op.move (Operand.tmp 123), type := 4, pos := "law.go:48", after := #[{ on := 48, ground := Ground.data }, { on := 45, ground := Ground.chain }], guard := none }) (v := ?tkv12050) rfl (by kernel_rfl) (by kernel_rfl) (by kernel_rfl) (fun _ _ _ h => h) (Or.inl ⟨by rfl, ?tky12050⟩) hH12006 ?tkr12050
        case tky12050 => (intro w' hSw; clear hSw; go_simp; try with_reducible rfl)
        try simp only [Act.put, List.setIfInBounds_toArray, List.set_cons_zero, List.set_cons_succ]
        refine wpAnyH_ready (rs := [50]) (by kernel_rfl) (by simp) ?_
        refine AllReadyH.cons (o := { dst := some 125, op := Op.call { callee := Callee.value (Operand.func 23), args := #[], argTypes := #[] }, type := 4, pos := "law.go:48", after := #[{ on := 49, ground := Ground.chain }, { on := 49, ground := Ground.guard }], guard := some (49, true) }) rfl (fun K hK => ?_) AllReadyH.nil
        go_simp
        refine (awake22_any wn12006).mono ?_
        rintro e' wn12051 ⟨rfl, hb12051⟩
        go_simp
        have hS12051 : Below (wC.heap.size) wC wn12051 := (hH12006).trans (hb12051.mono (hH12006).size)
        refine hK.out _ _ hS12051 (fun hH12051 => ?_)
        have hH12051 : Below (wC.heap.size) wC wn12051 := hH12051
        clear hK K hS12051
        try simp only [Act.put, List.setIfInBounds_toArray, List.set_cons_zero, List.set_cons_succ]
        refine wpAnyH_take (i := 51) (oi := { dst := some 126, op := Op.pick (Operand.tmp 124) (Operand.tmp 125) (Operand.const (Value.bool false)), type := 4, pos := "law.go:48", after := #[{ on := 49, ground := Ground.data }, { on := 50, ground := Ground.data }], guard := none }) (v := ?tkv12052) rfl (by kernel_rfl) (by kernel_rfl) (by kernel_rfl) (fun _ _ _ h => h) (Or.inl ⟨by rfl, ?tky12052⟩) hH12051 ?tkr12052
        case tky12052 => (intro w' hSw; clear hSw; go_simp; try with_reducible rfl)
        try simp only [Act.put, List.setIfInBounds_toArray, List.set_cons_zero, List.set_cons_succ]
        refine wpAnyH_take (i := 52) (oi := { dst := some 4, op := Op.assign (Operand.tmp 126), type := 4, pos := "law.go:48", after := #[{ on := 51, ground := Ground.data }, { on := 50, ground := Ground.chain }, { on := 0, ground := Ground.phase }, { on := 1, ground := Ground.phase }, { on := 2, ground := Ground.phase }, { on := 3, ground := Ground.phase }, { on := 4, ground := Ground.phase }, { on := 5, ground := Ground.phase }, { on := 6, ground := Ground.phase }, { on := 7, ground := Ground.phase }, { on := 8, ground := Ground.phase }, { on := 9, ground := Ground.phase }, { on := 10, ground := Ground.phase }, { on := 11, ground := Ground.phase }, { on := 12, ground := Ground.phase }, { on := 13, ground := Ground.phase }, { on := 14, ground := Ground.phase }, { on := 15, ground := Ground.phase }, { on := 16, ground := Ground.phase }, { on := 17, ground := Ground.phase }, { on := 18, ground := Ground.phase }, { on := 19, ground := Ground.phase }, { on := 20, ground := Ground.phase }, { on := 21, ground := Ground.phase }, { on := 22, ground := Ground.phase }, { on := 23, ground := Ground.phase }, { on := 24, ground := Ground.phase }, { on := 25, ground := Ground.phase }, { on := 26, ground := Ground.phase }, { on := 27, ground := Ground.phase }, { on := 28, ground := Ground.phase }, { on := 29, ground := Ground.phase }, { on := 30, ground := Ground.phase }, { on := 31, ground := Ground.phase }, { on := 32, ground := Ground.phase }, { on := 33, ground := Ground.phase }, { on := 34, ground := Ground.phase }, { on := 35, ground := Ground.phase }, { on := 36, ground := Ground.phase }, { on := 37, ground := Ground.phase }, { on := 38, ground := Ground.phase }, { on := 39, ground := Ground.phase }, { on := 40, ground := Ground.phase }, { on := 41, ground := Ground.phase }, { on := 42, ground := Ground.phase }, { on := 43, ground := Ground.phase }, { on := 44, ground := Ground.phase }, { on := 45, ground := Ground.phase }, { on := 46, ground := Ground.phase }, { on := 47, ground := Ground.phase }, { on := 48, ground := Ground.phase }, { on := 49, ground := Ground.phase }, { on := 50, ground := Ground.phase }, { on := 51, ground := Ground.phase }], guard := none }) (v := ?tkv12053) rfl (by kernel_rfl) (by kernel_rfl) (by kernel_rfl) (fun _ _ _ h => h) (Or.inl ⟨by rfl, ?tky12053⟩) hH12051 ?tkr12053
        case tky12053 => (intro w' hSw; clear hSw; go_simp; try with_reducible rfl)
        try simp only [Act.put, List.setIfInBounds_toArray, List.set_cons_zero, List.set_cons_succ]
        refine wpAnyH_done (by kernel_rfl) ?_ _
        refine NoPanic.normal ?_
        have HEND := Lib.hid ((HE.out _ (hH12051)).b)
        go_wp2_with fail
        go_ret
        exact ⟨rfl, HEND.out⟩
      | false =>
        have HV3 : Hid True := Lib.hid trivial
        refine wp_region_noPanic ?_
        refine wp_region_held_drew (S := (fun W => Below (wC.heap.size) wC W)) (by kernel_rfl) (Below.refl _ _).drew (fun hH0 => ?_)
        have hH0 : Below (wC.heap.size) wC wC.drew := hH0
        generalize wC.drew = wd13000 at *
        refine wpAnyH_take (i := 0) (oi := { dst := some 75, op := Op.load 30 (Operand.tmp 5), type := 30, pos := "law.go:48", after := #[], guard := none }) (v := .agg c1) rfl (by kernel_rfl) (by kernel_rfl) (by kernel_rfl) (fun _ _ _ h => h) (yields_row (by rfl) _ _ rfl w2.heap.size rfl _ _ _ _ (fun W hW => (HE.out W hW).bx _ _ _ (.tail _ (.head _))) Try.underlying30 rfl I1.out) hH0 ?tkr13001
        try simp only [Act.put, List.setIfInBounds_toArray, List.set_cons_zero, List.set_cons_succ]
        refine wpAnyH_ready (rs := [1]) (by kernel_rfl) (by simp) ?_
        refine AllReadyH.cons (o := { dst := some 76, op := Op.call { callee := Callee.value (Operand.func 17), args := #[Operand.tmp 75], argTypes := #[30] }, type := 4, pos := "law.go:48", after := #[{ on := 0, ground := Ground.data }], guard := none }) rfl (fun K hK => ?_) AllReadyH.nil
        go_simp
        refine (mayS ((HE.out wd13000 (hH0)).st _ _ (.tail _ (.head _)))).mono ?_
        rintro e' wn13002 ⟨rfl, hb13002⟩
        rw [HMAY.out]
        go_simp
        have hS13002 : Below (wC.heap.size) wC wn13002 := (hH0).trans (hb13002.mono (hH0).size)
        refine hK.out _ _ hS13002 (fun hH13002 => ?_)
        have hH13002 : Below (wC.heap.size) wC wn13002 := hH13002
        clear hK K hS13002
        try simp only [Act.put, List.setIfInBounds_toArray, List.set_cons_zero, List.set_cons_succ]
        refine wpAnyH_take (i := 2) (oi := { dst := some 77, op := Op.move (Operand.tmp 76), type := 4, pos := "law.go:48", after := #[{ on := 1, ground := Ground.data }, { on := 1, ground := Ground.chain }], guard := none }) (v := ?tkv13003) rfl (by kernel_rfl) (by kernel_rfl) (by kernel_rfl) (fun _ _ _ h => h) (Or.inl ⟨by rfl, ?tky13003⟩) hH13002 ?tkr13003
        case tky13003 => (intro w' hSw; clear hSw; go_simp; try with_reducible rfl)
        try simp only [Act.put, List.setIfInBounds_toArray, List.set_cons_zero, List.set_cons_succ]
        refine wpAnyH_take (i := 3) (oi := { dst := some 78, op := Op.load 30 (Operand.tmp 5), type := 30, pos := "law.go:48", after := #[{ on := 2, ground := Ground.guard }], guard := some (2, true) }) (v := .agg c1) rfl (by kernel_rfl) (by kernel_rfl) (by kernel_rfl) (fun _ _ _ h => h) (yields_row (by rfl) _ _ rfl w2.heap.size rfl _ _ _ _ (fun W hW => (HE.out W hW).bx _ _ _ (.tail _ (.head _))) Try.underlying30 rfl I1.out) hH13002 ?tkr13004
        try simp only [Act.put, List.setIfInBounds_toArray, List.set_cons_zero, List.set_cons_succ]
        refine wpAnyH_take (i := 4) (oi := { dst := some 79, op := Op.load 30 (Operand.tmp 9), type := 30, pos := "law.go:48", after := #[{ on := 2, ground := Ground.guard }], guard := some (2, true) }) (v := .agg cu) rfl (by kernel_rfl) (by kernel_rfl) (by kernel_rfl) (fun _ _ _ h => h) (yields_row (by rfl) _ _ rfl w5.heap.size rfl _ _ _ _ (fun W hW => (HE.out W hW).bx _ _ _ (.head _)) Try.underlying30 rfl IU.out) hH13002 ?tkr13005
        try simp only [Act.put, List.setIfInBounds_toArray, List.set_cons_zero, List.set_cons_succ]
        refine wpAnyH_ready (rs := [5]) (by kernel_rfl) (by simp) ?_
        refine AllReadyH.cons (o := { dst := some 80, op := Op.call { callee := Callee.value (Operand.func 19), args := #[Operand.tmp 78, Operand.tmp 79], argTypes := #[30, 30] }, type := 4, pos := "law.go:48", after := #[{ on := 3, ground := Ground.data }, { on := 4, ground := Ground.data }, { on := 2, ground := Ground.chain }, { on := 2, ground := Ground.guard }], guard := some (2, true) }) rfl (fun K hK => ?_) AllReadyH.nil
        go_simp
        refine (sameS ((HE.out wn13002 (hH13002)).st _ _ (.tail _ (.head _))) ((HE.out wn13002 (hH13002)).st _ _ (.head _))).mono ?_
        rintro e' wn13006 ⟨rfl, hb13006⟩
        rw [HEQ.out]
        go_simp
        have hS13006 : Below (wC.heap.size) wC wn13006 := (hH13002).trans (hb13006.mono (hH13002).size)
        refine hK.out _ _ hS13006 (fun hH13006 => ?_)
        have hH13006 : Below (wC.heap.size) wC wn13006 := hH13006
        clear hK K hS13006
        try simp only [Act.put, List.setIfInBounds_toArray, List.set_cons_zero, List.set_cons_succ]
        refine wpAnyH_take (i := 6) (oi := { dst := some 81, op := Op.pick (Operand.tmp 77) (Operand.tmp 80) (Operand.const (Value.bool false)), type := 4, pos := "law.go:48", after := #[{ on := 2, ground := Ground.data }, { on := 5, ground := Ground.data }], guard := none }) (v := ?tkv13007) rfl (by kernel_rfl) (by kernel_rfl) (by kernel_rfl) (fun _ _ _ h => h) (Or.inl ⟨by rfl, ?tky13007⟩) hH13006 ?tkr13007
        case tky13007 => (intro w' hSw; clear hSw; go_simp; try with_reducible rfl)
        try simp only [Act.put, List.setIfInBounds_toArray, List.set_cons_zero, List.set_cons_succ]
        refine wpAnyH_take (i := 7) (oi := { dst := some 82, op := Op.move (Operand.tmp 81), type := 4, pos := "law.go:48", after := #[{ on := 6, ground := Ground.data }, { on := 5, ground := Ground.chain }], guard := none }) (v := ?tkv13008) rfl (by kernel_rfl) (by kernel_rfl) (by kernel_rfl) (fun _ _ _ h => h) (Or.inl ⟨by rfl, ?tky13008⟩) hH13006 ?tkr13008
        case tky13008 => (intro w' hSw; clear hSw; go_simp; try with_reducible rfl)
        try simp only [Act.put, List.setIfInBounds_toArray, List.set_cons_zero, List.set_cons_succ]
        refine wpAnyH_take (i := 8) (oi := { dst := some 83, op := Op.fieldAddr 28 (Operand.tmp 3) 1, type := 0, pos := "law.go:48", after := #[{ on := 7, ground := Ground.guard }], guard := some (7, true) }) (v := ?tkv13009) rfl (by kernel_rfl) (by kernel_rfl) (by kernel_rfl) (fun _ _ _ h => h) (Or.inl ⟨by rfl, ?tky13009⟩) hH13006 ?tkr13009
        case tky13009 => (intro w' hSw; clear hSw; go_simp; try with_reducible rfl)
        try simp only [Act.put, List.setIfInBounds_toArray, List.set_cons_zero, List.set_cons_succ]
        refine wpAnyH_take (i := 9) (oi := { dst := some 84, op := Op.load 22 (Operand.tmp 83), type := 22, pos := "law.go:48", after := #[{ on := 8, ground := Ground.data }, { on := 7, ground := Ground.guard }], guard := some (7, true) }) (v := ?tkv13010) rfl (by kernel_rfl) (by kernel_rfl) (by kernel_rfl) (fun _ _ _ h => h) (Or.inl ⟨by rfl, ?tky13010⟩) hH13006 ?tkr13010
        case tky13010 => (intro w' hSw; have z0 := F31.out _ hSw; have z1 := F22.out _ hSw; have z2 := F20.out _ hSw; have z3 := FAV.out _ hSw; have z4 := F2o.out _ hSw; have z5 := F2v.out _ hSw; have z6 := F53.out _ hSw; have z7 := F23.out _ hSw; clear hSw; go_simp; try with_reducible rfl)
        try simp only [Act.put, List.setIfInBounds_toArray, List.set_cons_zero, List.set_cons_succ]
        refine wpAnyH_take (i := 10) (oi := { dst := some 85, op := Op.fieldAddr 30 (Operand.tmp 2) 2, type := 0, pos := "law.go:48", after := #[{ on := 7, ground := Ground.guard }], guard := some (7, true) }) (v := ?tkv13011) rfl (by kernel_rfl) (by kernel_rfl) (by kernel_rfl) (fun _ _ _ h => h) (Or.inl ⟨by rfl, ?tky13011⟩) hH13006 ?tkr13011
        case tky13011 => (intro w' hSw; clear hSw; go_simp; try with_reducible rfl)
        try simp only [Act.put, List.setIfInBounds_toArray, List.set_cons_zero, List.set_cons_succ]
        refine wpAnyH_take (i := 11) (oi := { dst := some 86, op := Op.load 22 (Operand.tmp 85), type := 22, pos := "law.go:48", after := #[{ on := 10, ground := Ground.data }, { on := 7, ground := Ground.guard }], guard := some (7, true) }) (v := ?tkv13012) rfl (by kernel_rfl) (by kernel_rfl) (by kernel_rfl) (fun _ _ _ h => h) (Or.inl ⟨by rfl, ?tky13012⟩) hH13006 ?tkr13012
        case tky13012 => (intro w' hSw; have z0 := F31.out _ hSw; have z1 := F22.out _ hSw; have z2 := F20.out _ hSw; have z3 := FAV.out _ hSw; have z4 := F2o.out _ hSw; have z5 := F2v.out _ hSw; have z6 := F53.out _ hSw; have z7 := F23.out _ hSw; clear hSw; go_simp; try with_reducible rfl)
        try simp only [Act.put, List.setIfInBounds_toArray, List.set_cons_zero, List.set_cons_succ]
        refine wpAnyH_take (i := 12) (oi := { dst := some 87, op := Op.binOp BinOp.gtr 22 (Operand.tmp 84) (Operand.tmp 86) 22, type := 4, pos := "law.go:48", after := #[{ on := 9, ground := Ground.data }, { on := 11, ground := Ground.data }, { on := 7, ground := Ground.guard }], guard := some (7, true) }) (v := ?tkv13013) rfl (by kernel_rfl) (by kernel_rfl) (by kernel_rfl) (fun _ _ _ h => h) (Or.inl ⟨by rfl, ?tky13013⟩) hH13006 ?tkr13013
        case tky13013 => (intro w' hSw; have q1 := HV1.out; clear hSw; go_simp; try with_reducible rfl)
        try simp only [Act.put, List.setIfInBounds_toArray, List.set_cons_zero, List.set_cons_succ]
        refine wpAnyH_take (i := 13) (oi := { dst := some 88, op := Op.pick (Operand.tmp 82) (Operand.tmp 87) (Operand.const (Value.bool false)), type := 4, pos := "law.go:48", after := #[{ on := 7, ground := Ground.data }, { on := 12, ground := Ground.data }], guard := none }) (v := ?tkv13014) rfl (by kernel_rfl) (by kernel_rfl) (by kernel_rfl) (fun _ _ _ h => h) (Or.inl ⟨by rfl, ?tky13014⟩) hH13006 ?tkr13014
        case tky13014 => (intro w' hSw; clear hSw; go_simp; try with_reducible rfl)
        try simp only [Act.put, List.setIfInBounds_toArray, List.set_cons_zero, List.set_cons_succ]
        refine wpAnyH_take (i := 14) (oi := { dst := some 89, op := Op.move (Operand.tmp 88), type := 4, pos := "law.go:48", after := #[{ on := 13, ground := Ground.data }, { on := 7, ground := Ground.chain }], guard := none }) (v := ?tkv13015) rfl (by kernel_rfl) (by kernel_rfl) (by kernel_rfl) (fun _ _ _ h => h) (Or.inl ⟨by rfl, ?tky13015⟩) hH13006 ?tkr13015
        case tky13015 => (intro w' hSw; clear hSw; go_simp; try with_reducible rfl)
        try simp only [Act.put, List.setIfInBounds_toArray, List.set_cons_zero, List.set_cons_succ]
        refine wpAnyH_take (i := 15) (oi := { dst := some 90, op := Op.fieldAddr 28 (Operand.tmp 3) 1, type := 0, pos := "law.go:48", after := #[{ on := 14, ground := Ground.guard }], guard := some (14, true) }) (v := ?tkv13016) rfl (by kernel_rfl) (by kernel_rfl) (by kernel_rfl) (fun _ _ _ h => h) (Or.inl ⟨by rfl, ?tky13016⟩) hH13006 ?tkr13016
        case tky13016 => (intro w' hSw; clear hSw; go_simp; try with_reducible rfl)
        try simp only [Act.put, List.setIfInBounds_toArray, List.set_cons_zero, List.set_cons_succ]
        refine wpAnyH_take (i := 16) (oi := { dst := some 91, op := Op.load 22 (Operand.tmp 90), type := 22, pos := "law.go:48", after := #[{ on := 15, ground := Ground.data }, { on := 14, ground := Ground.guard }], guard := some (14, true) }) (v := ?tkv13017) rfl (by kernel_rfl) (by kernel_rfl) (by kernel_rfl) (fun _ _ _ h => h) (Or.inl ⟨by rfl, ?tky13017⟩) hH13006 ?tkr13017
        case tky13017 => (intro w' hSw; have z0 := F31.out _ hSw; have z1 := F22.out _ hSw; have z2 := F20.out _ hSw; have z3 := FAV.out _ hSw; have z4 := F2o.out _ hSw; have z5 := F2v.out _ hSw; have z6 := F53.out _ hSw; have z7 := F23.out _ hSw; clear hSw; go_simp; try with_reducible rfl)
        try simp only [Act.put, List.setIfInBounds_toArray, List.set_cons_zero, List.set_cons_succ]
        refine wpAnyH_take (i := 17) (oi := { dst := some 92, op := Op.fieldAddr 30 (Operand.tmp 2) 0, type := 0, pos := "law.go:48", after := #[{ on := 14, ground := Ground.guard }], guard := some (14, true) }) (v := ?tkv13018) rfl (by kernel_rfl) (by kernel_rfl) (by kernel_rfl) (fun _ _ _ h => h) (Or.inl ⟨by rfl, ?tky13018⟩) hH13006 ?tkr13018
        case tky13018 => (intro w' hSw; clear hSw; go_simp; try with_reducible rfl)
        try simp only [Act.put, List.setIfInBounds_toArray, List.set_cons_zero, List.set_cons_succ]
        refine wpAnyH_take (i := 18) (oi := { dst := some 93, op := Op.load 3 (Operand.tmp 92), type := 3, pos := "law.go:48", after := #[{ on := 17, ground := Ground.data }, { on := 14, ground := Ground.guard }], guard := some (14, true) }) (v := ?tkv13019) rfl (by kernel_rfl) (by kernel_rfl) (by kernel_rfl) (fun _ _ _ h => h) (Or.inl ⟨by rfl, ?tky13019⟩) hH13006 ?tkr13019
        case tky13019 => (intro w' hSw; have z0 := F31.out _ hSw; have z1 := F22.out _ hSw; have z2 := F20.out _ hSw; have z3 := FAV.out _ hSw; have z4 := F2o.out _ hSw; have z5 := F2v.out _ hSw; have z6 := F53.out _ hSw; have z7 := F23.out _ hSw; clear hSw; go_simp; try with_reducible rfl)
        try simp only [Act.put, List.setIfInBounds_toArray, List.set_cons_zero, List.set_cons_succ]
        refine wpAnyH_take (i := 19) (oi := { dst := some 94, op := Op.fieldAddr 30 (Operand.tmp 2) 4, type := 0, pos := "law.go:48", after := #[{ on := 14, ground := Ground.guard }], guard := some (14, true) }) (v := ?tkv13020) rfl (by kernel_rfl) (by kernel_rfl) (by kernel_rfl) (fun _ _ _ h => h) (Or.inl ⟨by rfl, ?tky13020⟩) hH13006 ?tkr13020
        case tky13020 => (intro w' hSw; clear hSw; go_simp; try with_reducible rfl)
        try simp only [Act.put, List.setIfInBounds_toArray, List.set_cons_zero, List.set_cons_succ]
        refine wpAnyH_take (i := 20) (oi := { dst := some 95, op := Op.indexAddr 26 (Operand.tmp 94) (Operand.tmp 93), type := 0, pos := "law.go:48", after := #[{ on := 19, ground := Ground.data }, { on := 18, ground := Ground.data }, { on := 14, ground := Ground.guard }], guard := some (14, true) }) (v := ?tkv13021) rfl (by kernel_rfl) (by kernel_rfl) (by kernel_rfl) (fun _ _ _ h => h) (Or.inl ⟨by rfl, ?tky13021⟩) hH13006 ?tkr13021
        case tky13021 => (intro w' hSw; clear hSw; go_simp; try with_reducible rfl)
        try simp only [Act.put, List.setIfInBounds_toArray, List.set_cons_zero, List.set_cons_succ]
        refine wpAnyH_take (i := 21) (oi := { dst := some 96, op := Op.fieldAddr 25 (Operand.tmp 95) 0, type := 0, pos := "law.go:48", after := #[{ on := 20, ground := Ground.data }, { on := 14, ground := Ground.guard }], guard := some (14, true) }) (v := ?tkv13022) rfl (by kernel_rfl) (by kernel_rfl) (by kernel_rfl) (fun _ _ _ h => h) (Or.inl ⟨by rfl, ?tky13022⟩) hH13006 ?tkr13022
        case tky13022 => (intro w' hSw; clear hSw; go_simp; try with_reducible rfl)
        try simp only [Act.put, List.setIfInBounds_toArray, List.set_cons_zero, List.set_cons_succ]
        refine wpAnyH_take (i := 22) (oi := { dst := some 97, op := Op.load 22 (Operand.tmp 96), type := 22, pos := "law.go:48", after := #[{ on := 21, ground := Ground.data }, { on := 14, ground := Ground.guard }], guard := some (14, true) }) (v := ?tkv13023) rfl (by kernel_rfl) (by kernel_rfl) (by kernel_rfl) (fun _ _ _ h => h) (Or.inl ⟨by rfl, ?tky13023⟩) hH13006 ?tkr13023
        case tky13023 => (intro w' hSw; have z0 := F31.out _ hSw; have z1 := F22.out _ hSw; have z2 := F20.out _ hSw; have z3 := FAV.out _ hSw; have z4 := F2o.out _ hSw; have z5 := F2v.out _ hSw; have z6 := F53.out _ hSw; have z7 := F23.out _ hSw; clear hSw; go_simp; try with_reducible rfl)
        try simp only [Act.put, List.setIfInBounds_toArray, List.set_cons_zero, List.set_cons_succ]
        refine wpAnyH_take (i := 23) (oi := { dst := some 98, op := Op.binOp BinOp.gtr 22 (Operand.tmp 91) (Operand.tmp 97) 22, type := 4, pos := "law.go:48", after := #[{ on := 16, ground := Ground.data }, { on := 22, ground := Ground.data }, { on := 14, ground := Ground.guard }], guard := some (14, true) }) (v := ?tkv13024) rfl (by kernel_rfl) (by kernel_rfl) (by kernel_rfl) (fun _ _ _ h => h) (Or.inl ⟨by rfl, ?tky13024⟩) hH13006 ?tkr13024
        case tky13024 => (intro w' hSw; have q1 := HV2.out; clear hSw; go_simp; try with_reducible rfl)
        try simp only [Act.put, List.setIfInBounds_toArray, List.set_cons_zero, List.set_cons_succ]
        refine wpAnyH_take (i := 24) (oi := { dst := some 99, op := Op.pick (Operand.tmp 89) (Operand.tmp 98) (Operand.const (Value.bool false)), type := 4, pos := "law.go:48", after := #[{ on := 14, ground := Ground.data }, { on := 23, ground := Ground.data }], guard := none }) (v := ?tkv13025) rfl (by kernel_rfl) (by kernel_rfl) (by kernel_rfl) (fun _ _ _ h => h) (Or.inl ⟨by rfl, ?tky13025⟩) hH13006 ?tkr13025
        case tky13025 => (intro w' hSw; clear hSw; go_simp; try with_reducible rfl)
        try simp only [Act.put, List.setIfInBounds_toArray, List.set_cons_zero, List.set_cons_succ]
        refine wpAnyH_take (i := 25) (oi := { dst := some 100, op := Op.move (Operand.tmp 99), type := 4, pos := "law.go:48", after := #[{ on := 24, ground := Ground.data }, { on := 14, ground := Ground.chain }], guard := none }) (v := ?tkv13026) rfl (by kernel_rfl) (by kernel_rfl) (by kernel_rfl) (fun _ _ _ h => h) (Or.inl ⟨by rfl, ?tky13026⟩) hH13006 ?tkr13026
        case tky13026 => (intro w' hSw; clear hSw; go_simp; try with_reducible rfl)
        try simp only [Act.put, List.setIfInBounds_toArray, List.set_cons_zero, List.set_cons_succ]
        refine wpAnyH_take (i := 26) (oi := { dst := some 101, op := Op.fieldAddr 30 (Operand.tmp 2) 5, type := 0, pos := "law.go:48", after := #[{ on := 25, ground := Ground.guard }], guard := some (25, true) }) (v := ?tkv13027) rfl (by kernel_rfl) (by kernel_rfl) (by kernel_rfl) (fun _ _ _ h => h) (Or.inl ⟨by rfl, ?tky13027⟩) hH13006 ?tkr13027
        case tky13027 => (intro w' hSw; clear hSw; go_simp; try with_reducible rfl)
        try simp only [Act.put, List.setIfInBounds_toArray, List.set_cons_zero, List.set_cons_succ]
        refine wpAnyH_take (i := 27) (oi := { dst := some 102, op := Op.load 4 (Operand.tmp 101), type := 4, pos := "law.go:48", after := #[{ on := 26, ground := Ground.data }, { on := 25, ground := Ground.guard }], guard := some (25, true) }) (v := ?tkv13028) rfl (by kernel_rfl) (by kernel_rfl) (by kernel_rfl) (fun _ _ _ h => h) (Or.inl ⟨by rfl, ?tky13028⟩) hH13006 ?tkr13028
        case tky13028 => (intro w' hSw; have z0 := F31.out _ hSw; have z1 := F22.out _ hSw; have z2 := F20.out _ hSw; have z3 := FAV.out _ hSw; have z4 := F2o.out _ hSw; have z5 := F2v.out _ hSw; have z6 := F53.out _ hSw; have z7 := F23.out _ hSw; clear hSw; go_simp; try with_reducible rfl)
        try simp only [Act.put, List.setIfInBounds_toArray, List.set_cons_zero, List.set_cons_succ]
        refine wpAnyH_take (i := 28) (oi := { dst := some 103, op := Op.unOp UnOp.not 4 (Operand.tmp 102), type := 4, pos := "law.go:48", after := #[{ on := 27, ground := Ground.data }, { on := 25, ground := Ground.guard }], guard := some (25, true) }) (v := ?tkv13029) rfl (by kernel_rfl) (by kernel_rfl) (by kernel_rfl) (fun _ _ _ h => h) (Or.inl ⟨by rfl, ?tky13029⟩) hH13006 ?tkr13029
        case tky13029 => (intro w' hSw; clear hSw; go_simp; try with_reducible rfl)
        try simp only [Act.put, List.setIfInBounds_toArray, List.set_cons_zero, List.set_cons_succ]
        refine wpAnyH_take (i := 29) (oi := { dst := some 104, op := Op.move (Operand.tmp 103), type := 4, pos := "law.go:48", after := #[{ on := 28, ground := Ground.data }, { on := 25, ground := Ground.chain }, { on := 25, ground := Ground.guard }], guard := some (25, true) }) (v := ?tkv13030) rfl (by kernel_rfl) (by kernel_rfl) (by kernel_rfl) (fun _ _ _ h => h) (Or.inl ⟨by rfl, ?tky13030⟩) hH13006 ?tkr13030
        case tky13030 => (intro w' hSw; clear hSw; go_simp; try with_reducible rfl)
        try simp only [Act.put, List.setIfInBounds_toArray, List.set_cons_zero, List.set_cons_succ]
        refine wpAnyH_take (i := 30) (oi := { dst := some 105, op := Op.fieldAddr 28 (Operand.tmp 3) 1, type := 0, pos := "law.go:48", after := #[{ on := 29, ground := Ground.guard }], guard := some (29, false) }) (v := undef) rfl (by kernel_rfl) (by kernel_rfl) (by kernel_rfl) (fun _ _ _ h => h) (Or.inr ⟨by rfl, rfl⟩) hH13006 ?tkr13031
        try simp only [Act.put, List.setIfInBounds_toArray, List.set_cons_zero, List.set_cons_succ]
        refine wpAnyH_take (i := 31) (oi := { dst := some 106, op := Op.load 22 (Operand.tmp 105), type := 22, pos := "law.go:48", after := #[{ on := 30, ground := Ground.data }, { on := 29, ground := Ground.guard }], guard := some (29, false) }) (v := undef) rfl (by kernel_rfl) (by kernel_rfl) (by kernel_rfl) (fun _ _ _ h => h) (Or.inr ⟨by rfl, rfl⟩) hH13006 ?tkr13032
        try simp only [Act.put, List.setIfInBounds_toArray, List.set_cons_zero, List.set_cons_succ]
        refine wpAnyH_take (i := 32) (oi := { dst := some 107, op := Op.fieldAddr 30 (Operand.tmp 2) 6, type := 0, pos := "law.go:48", after := #[{ on := 29, ground := Ground.guard }], guard := some (29, false) }) (v := undef) rfl (by kernel_rfl) (by kernel_rfl) (by kernel_rfl) (fun _ _ _ h => h) (Or.inr ⟨by rfl, rfl⟩) hH13006 ?tkr13033
        try simp only [Act.put, List.setIfInBounds_toArray, List.set_cons_zero, List.set_cons_succ]
        refine wpAnyH_take (i := 33) (oi := { dst := some 108, op := Op.fieldAddr 28 (Operand.tmp 107) 1, type := 0, pos := "law.go:48", after := #[{ on := 32, ground := Ground.data }, { on := 29, ground := Ground.guard }], guard := some (29, false) }) (v := undef) rfl (by kernel_rfl) (by kernel_rfl) (by kernel_rfl) (fun _ _ _ h => h) (Or.inr ⟨by rfl, rfl⟩) hH13006 ?tkr13034
        try simp only [Act.put, List.setIfInBounds_toArray, List.set_cons_zero, List.set_cons_succ]
        refine wpAnyH_take (i := 34) (oi := { dst := some 109, op := Op.load 22 (Operand.tmp 108), type := 22, pos := "law.go:48", after := #[{ on := 33, ground := Ground.data }, { on := 29, ground := Ground.guard }], guard := some (29, false) }) (v := undef) rfl (by kernel_rfl) (by kernel_rfl) (by kernel_rfl) (fun _ _ _ h => h) (Or.inr ⟨by rfl, rfl⟩) hH13006 ?tkr13035
        try simp only [Act.put, List.setIfInBounds_toArray, List.set_cons_zero, List.set_cons_succ]
        refine wpAnyH_take (i := 35) (oi := { dst := some 110, op := Op.binOp BinOp.gtr 22 (Operand.tmp 106) (Operand.tmp 109) 22, type := 4, pos := "law.go:48", after := #[{ on := 31, ground := Ground.data }, { on := 34, ground := Ground.data }, { on := 29, ground := Ground.guard }], guard := some (29, false) }) (v := undef) rfl (by kernel_rfl) (by kernel_rfl) (by kernel_rfl) (fun _ _ _ h => h) (Or.inr ⟨by rfl, rfl⟩) hH13006 ?tkr13036
        try simp only [Act.put, List.setIfInBounds_toArray, List.set_cons_zero, List.set_cons_succ]
        refine wpAnyH_take (i := 36) (oi := { dst := some 111, op := Op.pick (Operand.tmp 104) (Operand.const (Value.bool true)) (Operand.tmp 110), type := 4, pos := "law.go:48", after := #[{ on := 29, ground := Ground.data }, { on := 35, ground := Ground.data }, { on := 25, ground := Ground.guard }], guard := some (25, true) }) (v := ?tkv13037) rfl (by kernel_rfl) (by kernel_rfl) (by kernel_rfl) (fun _ _ _ h => h) (Or.inl ⟨by rfl, ?tky13037⟩) hH13006 ?tkr13037
        case tky13037 => (intro w' hSw; clear hSw; go_simp; try with_reducible rfl)
        try simp only [Act.put, List.setIfInBounds_toArray, List.set_cons_zero, List.set_cons_succ]
        refine wpAnyH_take (i := 37) (oi := { dst := some 112, op := Op.pick (Operand.tmp 100) (Operand.tmp 111) (Operand.const (Value.bool false)), type := 4, pos := "law.go:48", after := #[{ on := 25, ground := Ground.data }, { on := 36, ground := Ground.data }], guard := none }) (v := ?tkv13038) rfl (by kernel_rfl) (by kernel_rfl) (by kernel_rfl) (fun _ _ _ h => h) (Or.inl ⟨by rfl, ?tky13038⟩) hH13006 ?tkr13038
        case tky13038 => (intro w' hSw; clear hSw; go_simp; try with_reducible rfl)
        try simp only [Act.put, List.setIfInBounds_toArray, List.set_cons_zero, List.set_cons_succ]
        refine wpAnyH_take (i := 38) (oi := { dst := some 113, op := Op.move (Operand.tmp 112), type := 4, pos := "law.go:48", after := #[{ on := 37, ground := Ground.data }, { on := 29, ground := Ground.chain }], guard := none }) (v := ?tkv13039) rfl (by kernel_rfl) (by kernel_rfl) (by kernel_rfl) (fun _ _ _ h => h) (Or.inl ⟨by rfl, ?tky13039⟩) hH13006 ?tkr13039
        case tky13039 => (intro w' hSw; clear hSw; go_simp; try with_reducible rfl)
        try simp only [Act.put, List.setIfInBounds_toArray, List.set_cons_zero, List.set_cons_succ]
        refine wpAnyH_take (i := 39) (oi := { dst := some 114, op := Op.fieldAddr 30 (Operand.tmp 5) 3, type := 0, pos := "law.go:48", after := #[{ on := 38, ground := Ground.guard }], guard := some (38, true) }) (v := ?tkv13040) rfl (by kernel_rfl) (by kernel_rfl) (by kernel_rfl) (fun _ _ _ h => h) (Or.inl ⟨by rfl, ?tky13040⟩) hH13006 ?tkr13040
        case tky13040 => (intro w' hSw; clear hSw; go_simp; try with_reducible rfl)
        try simp only [Act.put, List.setIfInBounds_toArray, List.set_cons_zero, List.set_cons_succ]
        refine wpAnyH_take (i := 40) (oi := { dst := some 115, op := Op.load 22 (Operand.tmp 114), type := 22, pos := "law.go:48", after := #[{ on := 39, ground := Ground.data }, { on := 38, ground := Ground.guard }], guard := some (38, true) }) (v := ?tkv13041) rfl (by kernel_rfl) (by kernel_rfl) (by kernel_rfl) (fun _ _ _ h => h) (Or.inl ⟨by rfl, ?tky13041⟩) hH13006 ?tkr13041
        case tky13041 => (intro w' hSw; have z0 := F31.out _ hSw; have z1 := F22.out _ hSw; have z2 := F20.out _ hSw; have z3 := FAV.out _ hSw; have z4 := F2o.out _ hSw; have z5 := F2v.out _ hSw; have z6 := F53.out _ hSw; have z7 := F23.out _ hSw; clear hSw; go_simp; try with_reducible rfl)
        try simp only [Act.put, List.setIfInBounds_toArray, List.set_cons_zero, List.set_cons_succ]
        refine wpAnyH_take (i := 41) (oi := { dst := some 116, op := Op.fieldAddr 30 (Operand.tmp 2) 3, type := 0, pos := "law.go:48", after := #[{ on := 38, ground := Ground.guard }], guard := some (38, true) }) (v := ?tkv13042) rfl (by kernel_rfl) (by kernel_rfl) (by kernel_rfl) (fun _ _ _ h => h) (Or.inl ⟨by rfl, ?tky13042⟩) hH13006 ?tkr13042
        case tky13042 => (intro w' hSw; clear hSw; go_simp; try with_reducible rfl)
        try simp only [Act.put, List.setIfInBounds_toArray, List.set_cons_zero, List.set_cons_succ]
        refine wpAnyH_take (i := 42) (oi := { dst := some 117, op := Op.load 22 (Operand.tmp 116), type := 22, pos := "law.go:48", after := #[{ on := 41, ground := Ground.data }, { on := 38, ground := Ground.guard }], guard := some (38, true) }) (v := ?tkv13043) rfl (by kernel_rfl) (by kernel_rfl) (by kernel_rfl) (fun _ _ _ h => h) (Or.inl ⟨by rfl, ?tky13043⟩) hH13006 ?tkr13043
        case tky13043 => (intro w' hSw; have z0 := F31.out _ hSw; have z1 := F22.out _ hSw; have z2 := F20.out _ hSw; have z3 := FAV.out _ hSw; have z4 := F2o.out _ hSw; have z5 := F2v.out _ hSw; have z6 := F53.out _ hSw; have z7 := F23.out _ hSw; clear hSw; go_simp; try with_reducible rfl)
        try simp only [Act.put, List.setIfInBounds_toArray, List.set_cons_zero, List.set_cons_succ]
        refine wpAnyH_take (i := 43) (oi := { dst := some 118, op := Op.binOp BinOp.gtr 22 (Operand.tmp 115) (Operand.tmp 117) 22, type := 4, pos := "law.go:48", after := #[{ on := 40, ground := Ground.data }, { on := 42, ground := Ground.data }, { on := 38, ground := Ground.guard }], guard := some (38, true) }) (v := ?tkv13044) rfl (by kernel_rfl) (by kernel_rfl) (by kernel_rfl) (fun _ _ _ h => h) (Or.inl ⟨by rfl, ?tky13044⟩) hH13006 ?tkr13044
        case tky13044 => (intro w' hSw; have q1 := HV4.out; clear hSw; go_simp; try with_reducible rfl)
        try simp only [Act.put, List.setIfInBounds_toArray, List.set_cons_zero, List.set_cons_succ]
        refine wpAnyH_take (i := 44) (oi := { dst := some 119, op := Op.pick (Operand.tmp 113) (Operand.tmp 118) (Operand.const (Value.bool false)), type := 4, pos := "law.go:48", after := #[{ on := 38, ground := Ground.data }, { on := 43, ground := Ground.data }], guard := none }) (v := ?tkv13045) rfl (by kernel_rfl) (by kernel_rfl) (by kernel_rfl) (fun _ _ _ h => h) (Or.inl ⟨by rfl, ?tky13045⟩) hH13006 ?tkr13045
        case tky13045 => (intro w' hSw; clear hSw; go_simp; try with_reducible rfl)
        try simp only [Act.put, List.setIfInBounds_toArray, List.set_cons_zero, List.set_cons_succ]
        refine wpAnyH_take (i := 45) (oi := { dst := some 120, op := Op.move (Operand.tmp 119), type := 4, pos := "law.go:48", after := #[{ on := 44, ground := Ground.data }, { on := 38, ground := Ground.chain }], guard := none }) (v := ?tkv13046) rfl (by kernel_rfl) (by kernel_rfl) (by kernel_rfl) (fun _ _ _ h => h) (Or.inl ⟨by rfl, ?tky13046⟩) hH13006 ?tkr13046
        case tky13046 => (intro w' hSw; clear hSw; go_simp; try with_reducible rfl)
        try simp only [Act.put, List.setIfInBounds_toArray, List.set_cons_zero, List.set_cons_succ]
        refine wpAnyH_take (i := 46) (oi := { dst := some 121, op := Op.move (Operand.tmp 8), type := 33, pos := "law.go:48", after := #[{ on := 45, ground := Ground.guard }], guard := some (45, true) }) (v := ?tkv13047) rfl (by kernel_rfl) (by kernel_rfl) (by kernel_rfl) (fun _ _ _ h => h) (Or.inl ⟨by rfl, ?tky13047⟩) hH13006 ?tkr13047
        case tky13047 => (intro w' hSw; clear hSw; go_simp; try with_reducible rfl)
        try simp only [Act.put, List.setIfInBounds_toArray, List.set_cons_zero, List.set_cons_succ]
        refine wpAnyH_take (i := 47) (oi := { dst := some 122, op := Op.binOp BinOp.eql 33 (Operand.tmp 121) (Operand.const (Value.int IntKind.i64 8)) 33, type := 4, pos := "law.go:48", after := #[{ on := 46, ground := Ground.data }, { on := 45, ground := Ground.guard }], guard := some (45, true) }) (v := ?tkv13048) rfl (by kernel_rfl) (by kernel_rfl) (by kernel_rfl) (fun _ _ _ h => h) (Or.inl ⟨by rfl, ?tky13048⟩) hH13006 ?tkr13048
        case tky13048 => (intro w' hSw; clear hSw; go_simp; try with_reducible rfl)
        try simp only [Act.put, List.setIfInBounds_toArray, List.set_cons_zero, List.set_cons_succ]
        refine wpAnyH_take (i := 48) (oi := { dst := some 123, op := Op.pick (Operand.tmp 120) (Operand.tmp 122) (Operand.const (Value.bool false)), type := 4, pos := "law.go:48", after := #[{ on := 45, ground := Ground.data }, { on := 47, ground := Ground.data }], guard := none }) (v := ?tkv13049) rfl (by kernel_rfl) (by kernel_rfl) (by kernel_rfl) (fun _ _ _ h => h) (Or.inl ⟨by rfl, ?tky13049⟩) hH13006 ?tkr13049
        case tky13049 => (intro w' hSw; clear hSw; go_simp; try with_reducible rfl)
        try simp only [Act.put, List.setIfInBounds_toArray, List.set_cons_zero, List.set_cons_succ]
        refine wpAnyH_take (i := 49) (oi := { dst := some 124, op := Op.move (Operand.tmp 123), type := 4, pos := "law.go:48", after := #[{ on := 48, ground := Ground.data }, { on := 45, ground := Ground.chain }], guard := none }) (v := ?tkv13050) rfl (by kernel_rfl) (by kernel_rfl) (by kernel_rfl) (fun _ _ _ h => h) (Or.inl ⟨by rfl, ?tky13050⟩) hH13006 ?tkr13050
        case tky13050 => (intro w' hSw; clear hSw; go_simp; try with_reducible rfl)
        try simp only [Act.put, List.setIfInBounds_toArray, List.set_cons_zero, List.set_cons_succ]
        refine wpAnyH_ready (rs := [50]) (by kernel_rfl) (by simp) ?_
        refine AllReadyH.cons (o := { dst := some 125, op := Op.call { callee := Callee.value (Operand.func 23), args := #[], argTypes := #[] }, type := 4, pos := "law.go:48", after := #[{ on := 49, ground := Ground.chain }, { on := 49, ground := Ground.guard }], guard := some (49, true) }) rfl (fun K hK => ?_) AllReadyH.nil
        go_simp
        refine (awake22_any wn13006).mono ?_
        rintro e' wn13051 ⟨rfl, hb13051⟩
        go_simp
        have hS13051 : Below (wC.heap.size) wC wn13051 := (hH13006).trans (hb13051.mono (hH13006).size)
        refine hK.out _ _ hS13051 (fun hH13051 => ?_)
        have hH13051 : Below (wC.heap.size) wC wn13051 := hH13051
        clear hK K hS13051
        try simp only [Act.put, List.setIfInBounds_toArray, List.set_cons_zero, List.set_cons_succ]
        refine wpAnyH_take (i := 51) (oi := { dst := some 126, op := Op.pick (Operand.tmp 124) (Operand.tmp 125) (Operand.const (Value.bool false)), type := 4, pos := "law.go:48", after := #[{ on := 49, ground := Ground.data }, { on := 50, ground := Ground.data }], guard := none }) (v := ?tkv13052) rfl (by kernel_rfl) (by kernel_rfl) (by kernel_rfl) (fun _ _ _ h => h) (Or.inl ⟨by rfl, ?tky13052⟩) hH13051 ?tkr13052
        case tky13052 => (intro w' hSw; clear hSw; go_simp; try with_reducible rfl)
        try simp only [Act.put, List.setIfInBounds_toArray, List.set_cons_zero, List.set_cons_succ]
        refine wpAnyH_take (i := 52) (oi := { dst := some 4, op := Op.assign (Operand.tmp 126), type := 4, pos := "law.go:48", after := #[{ on := 51, ground := Ground.data }, { on := 50, ground := Ground.chain }, { on := 0, ground := Ground.phase }, { on := 1, ground := Ground.phase }, { on := 2, ground := Ground.phase }, { on := 3, ground := Ground.phase }, { on := 4, ground := Ground.phase }, { on := 5, ground := Ground.phase }, { on := 6, ground := Ground.phase }, { on := 7, ground := Ground.phase }, { on := 8, ground := Ground.phase }, { on := 9, ground := Ground.phase }, { on := 10, ground := Ground.phase }, { on := 11, ground := Ground.phase }, { on := 12, ground := Ground.phase }, { on := 13, ground := Ground.phase }, { on := 14, ground := Ground.phase }, { on := 15, ground := Ground.phase }, { on := 16, ground := Ground.phase }, { on := 17, ground := Ground.phase }, { on := 18, ground := Ground.phase }, { on := 19, ground := Ground.phase }, { on := 20, ground := Ground.phase }, { on := 21, ground := Ground.phase }, { on := 22, ground := Ground.phase }, { on := 23, ground := Ground.phase }, { on := 24, ground := Ground.phase }, { on := 25, ground := Ground.phase }, { on := 26, ground := Ground.phase }, { on := 27, ground := Ground.phase }, { on := 28, ground := Ground.phase }, { on := 29, ground := Ground.phase }, { on := 30, ground := Ground.phase }, { on := 31, ground := Ground.phase }, { on := 32, ground := Ground.phase }, { on := 33, ground := Ground.phase }, { on := 34, ground := Ground.phase }, { on := 35, ground := Ground.phase }, { on := 36, ground := Ground.phase }, { on := 37, ground := Ground.phase }, { on := 38, ground := Ground.phase }, { on := 39, ground := Ground.phase }, { on := 40, ground := Ground.phase }, { on := 41, ground := Ground.phase }, { on := 42, ground := Ground.phase }, { on := 43, ground := Ground.phase }, { on := 44, ground := Ground.phase }, { on := 45, ground := Ground.phase }, { on := 46, ground := Ground.phase }, { on := 47, ground := Ground.phase }, { on := 48, ground := Ground.phase }, { on := 49, ground := Ground.phase }, { on := 50, ground := Ground.phase }, { on := 51, ground := Ground.phase }], guard := none }) (v := ?tkv13053) rfl (by kernel_rfl) (by kernel_rfl) (by kernel_rfl) (fun _ _ _ h => h) (Or.inl ⟨by rfl, ?tky13053⟩) hH13051 ?tkr13053
        case tky13053 => (intro w' hSw; clear hSw; go_simp; try with_reducible rfl)
        try simp only [Act.put, List.setIfInBounds_toArray, List.set_cons_zero, List.set_cons_succ]
        refine wpAnyH_done (by kernel_rfl) ?_ _
        refine NoPanic.normal ?_
        have HEND := Lib.hid ((HE.out _ (hH13051)).b)
        go_wp2_with fail
        go_ret
        exact ⟨rfl, HEND.out⟩
end Go.Proofs.Ytnbpjajgfpdddaa
