/- boot: by contract, states as data. -/
import Derived.Test.YtoclckfpbmglfaaDoorStEq
namespace Go.Proofs.YtoclckfpbmglfaaDoor
open Go.RowKit
section
variable {w w' : World} {P : Nat → Prop} {cs : Array Value} {L : LSt}
theorem IsSt.set0 (h : IsSt w P cs L) (k : Int) : IsSt w P (cs.setIfInBounds 0 (.int .i64 k)) { L with act := k } := by
  obtain ⟨A0, c0, A1, c1, A, c, rfl, r0, r1, r2⟩ := h
  exact ⟨A0, c0, A1, c1, A, c, rfl, r0, r1, r2⟩
theorem IsSt.set1 (h : IsSt w P cs L) (k : Int) : IsSt w P (cs.setIfInBounds 1 (.int .i64 k)) { L with trial := k } := by
  obtain ⟨A0, c0, A1, c1, A, c, rfl, r0, r1, r2⟩ := h
  exact ⟨A0, c0, A1, c1, A, c, rfl, r0, r1, r2⟩
theorem IsSt.set2 (h : IsSt w P cs L) (k : Nat) : IsSt w P (cs.setIfInBounds 2 (.int .u32 (k : Int))) { L with flo := k } := by
  obtain ⟨A0, c0, A1, c1, A, c, rfl, r0, r1, r2⟩ := h
  exact ⟨A0, c0, A1, c1, A, c, rfl, r0, r1, r2⟩
theorem ownS (h : IsSt w P cs L) (hl : L.light) : Calls Tryd.prog 25 #[.agg cs] w (RetS L w) := by
  obtain ⟨A0, c0, A1, c1, A, c, rfl, r0, r1, r2⟩ := h
  obtain ⟨l0, l1, l2⟩ := hl
  refine (own_any _ _ _ _ _ _ _ _ _ _ _ _ _ _ _ _ _ _ _ _ _ _ _ w.heap.size _ _ _ w r0.row r1.row r2.row (Nat.le_refl _) (by omega) (by omega) (by omega)).mono fun e w' ⟨B0, d0, B1, d1, B, d, he, s0, s1, s2, hb⟩ => ?_
  exact ⟨_, he, ⟨B0, d0, B1, d1, B, d, rfl, s0.out, s1.out, s2.out⟩, hb⟩
theorem stMay_act (h : L.may = true) : (L.act = 0 ∨ L.act = 1) ∧ 0 ≤ L.trial ∧ L.trial ≤ 3 := by
  unfold LSt.may mayB2 at h
  simp only [Bool.and_eq_true, decide_eq_true_eq] at h
  obtain ⟨⟨⟨h1, h2, h3⟩, _⟩, _⟩ := h
  exact ⟨h1, h2, h3⟩
end
def LSt.start (L : LSt) : LSt := if L.trial = 0 then L else { L with act := if L.trial = 1 then 1 - L.act else L.act, trial := L.trial - 1 }
/-- a state and a bool are told; the state in memory of its own -/
def RetSV (L : LSt) (v : Value) (w : World) (e : Ending) (w' : World) : Prop := ∃ cs, e = .returned (.tuple #[.agg cs, v]) ∧ Hid (IsSt w' (fun b => w.heap.size ≤ b) cs L) ∧ Hid (Below w.heap.size w w')
set_option maxRecDepth 100000 in
set_option maxHeartbeats 1600000 in
theorem start_no {w : World} {P : Nat → Prop} {cs : Array Value} {L : LSt} (h : IsSt w P cs L) (hm : L.may = false) : Calls Tryd.prog 9 #[.agg cs] w fun e w' => e = .returned (.tuple #[.agg zState, .bool false]) ∧ Below w.heap.size w w' := by
  have e0 := (((Env.start w).addSt h).alloc cs 30).alloc #[.int .i64 0, .int .i64 0, .int .u32 0, .int .u32 0, .int .u32 0, .int .i64 0, .slice none 0 0, .int .u32 0, .int .i64 0, .slice none 0 0, .bool false, .int .u32 0, .int .u32 0, .int .i64 0, .int .i64 0, .int .i64 0, .slice none 0 0] 30
  rw [show (w.alloc (.cells cs 30)).heap.size = w.heap.size + 1 by simp] at e0
  have E0 := Lib.hid e0
  have HM := Lib.hid hm
  have IN := Lib.hid h.inf
  clear e0 h hm
  go_enter Tryd.func9, Tryd.ntmps9
  go_wp2_with ((with_reducible show wpList _ _ _ _ _ _); refine wpList_load_row (o := ⟨some 4, _, _, _, _, _⟩) rfl _ (.tmp 1) rfl (w.heap.size) rfl _ _ _ _ (E0.out.bx _ _ _ (.tail _ (.head _))) Tryd.underlying30 rfl IN.out ?_)
  generalize (w.alloc (.cells cs 30)).alloc (.cells #[.int .i64 0, .int .i64 0, .int .u32 0, .int .u32 0, .int .u32 0, .int .i64 0, .slice none 0 0, .int .u32 0, .int .i64 0, .slice none 0 0, .bool false, .int .u32 0, .int .u32 0, .int .i64 0, .int .i64 0, .int .i64 0, .slice none 0 0] 30) = w0 at *
  refine (mayS (E0.out.st _ _ (.head _))).mono ?_
  rintro e w1 ⟨rfl, hb1⟩
  rw [HM.out]
  have E1 := Lib.hid (E0.out.below hb1)
  clear hb1 E0
  go_wp2_with ((with_reducible show wpList _ _ _ _ _ _); refine wpList_store_row rfl _ (.tmp 2) (.tmp 7) rfl (w.heap.size + 1) zState rfl rfl _ _ (E1.out.bx _ _ _ (.head _)) (by kernel_rfl) (by rfl) (by kernel_rfl) ?_)
  have hrow : (w1.setRow (w.heap.size + 1) zState).heap[w.heap.size + 1]? = some (.cells zState 30 (0, 0)) := setRow_heap _ _ _ _ _ _ (E1.out.bx _ _ _ (.head _))
  refine bodyPost_ret (results_cell_tmp_row rfl _ _ (w.heap.size + 1) _ _ (0, 0) _ rfl hrow Tryd.underlying30 rfl (by kernel_rfl)) rfl ?_
  exact ⟨rfl, below_setRow2 E1.out.b (Nat.le_succ _) _⟩
set_option maxRecDepth 100000 in
set_option maxHeartbeats 1600000 in
theorem confirm_no {w : World} {P : Nat → Prop} {cs : Array Value} {L : LSt} (h : IsSt w P cs L) (hm : L.may = false) : Calls Tryd.prog 11 #[.agg cs] w fun e w' => e = .returned (.tuple #[.agg zState, .bool false]) ∧ Below w.heap.size w w' := by
  have e0 := (((Env.start w).addSt h).alloc cs 30).alloc #[.int .i64 0, .int .i64 0, .int .u32 0, .int .u32 0, .int .u32 0, .int .i64 0, .slice none 0 0, .int .u32 0, .int .i64 0, .slice none 0 0, .bool false, .int .u32 0, .int .u32 0, .int .i64 0, .int .i64 0, .int .i64 0, .slice none 0 0] 30
  rw [show (w.alloc (.cells cs 30)).heap.size = w.heap.size + 1 by simp] at e0
  have E0 := Lib.hid e0
  have HM := Lib.hid hm
  have IN := Lib.hid h.inf
  clear e0 h hm
  go_enter Tryd.func11, Tryd.ntmps11
  go_wp2_with ((with_reducible show wpList _ _ _ _ _ _); refine wpList_load_row (o := ⟨some 5, _, _, _, _, _⟩) rfl _ (.tmp 1) rfl (w.heap.size) rfl _ _ _ _ (E0.out.bx _ _ _ (.tail _ (.head _))) Tryd.underlying30 rfl IN.out ?_)
  generalize (w.alloc (.cells cs 30)).alloc (.cells #[.int .i64 0, .int .i64 0, .int .u32 0, .int .u32 0, .int .u32 0, .int .i64 0, .slice none 0 0, .int .u32 0, .int .i64 0, .slice none 0 0, .bool false, .int .u32 0, .int .u32 0, .int .i64 0, .int .i64 0, .int .i64 0, .slice none 0 0] 30) = w0 at *
  refine (mayS (E0.out.st _ _ (.head _))).mono ?_
  rintro e w1 ⟨rfl, hb1⟩
  rw [HM.out]
  have E1 := Lib.hid (E0.out.below hb1)
  clear hb1 E0
  go_wp2_with ((with_reducible show wpList _ _ _ _ _ _); refine wpList_store_row rfl _ (.tmp 2) (.tmp 8) rfl (w.heap.size + 1) zState rfl rfl _ _ (E1.out.bx _ _ _ (.head _)) (by kernel_rfl) (by rfl) (by kernel_rfl) ?_)
  have hrow : (w1.setRow (w.heap.size + 1) zState).heap[w.heap.size + 1]? = some (.cells zState 30 (0, 0)) := setRow_heap _ _ _ _ _ _ (E1.out.bx _ _ _ (.head _))
  refine bodyPost_ret (results_cell_tmp_row rfl _ _ (w.heap.size + 1) _ _ (0, 0) _ rfl hrow Tryd.underlying30 rfl (by kernel_rfl)) rfl ?_
  exact ⟨rfl, below_setRow2 E1.out.b (Nat.le_succ _) _⟩
set_option maxRecDepth 100000 in
set_option maxHeartbeats 1600000 in
theorem activate_no {w : World} {P : Nat → Prop} {cs : Array Value} {L : LSt} (h : IsSt w P cs L) (hm : L.may = false) : Calls Tryd.prog 8 #[.agg cs] w fun e w' => e = .returned (.tuple #[.agg zState, .int .i64 1]) ∧ Below w.heap.size w w' := by
  have e0 := (((Env.start w).addSt h).alloc cs 30).alloc #[.int .i64 0, .int .i64 0, .int .u32 0, .int .u32 0, .int .u32 0, .int .i64 0, .slice none 0 0, .int .u32 0, .int .i64 0, .slice none 0 0, .bool false, .int .u32 0, .int .u32 0, .int .i64 0, .int .i64 0, .int .i64 0, .slice none 0 0] 30
  rw [show (w.alloc (.cells cs 30)).heap.size = w.heap.size + 1 by simp] at e0
  have E0 := Lib.hid e0
  have HM := Lib.hid hm
  have IN := Lib.hid h.inf
  clear e0 h hm
  go_enter Tryd.func8, Tryd.ntmps8
  go_wp2_with ((with_reducible show wpList _ _ _ _ _ _); refine wpList_load_row (o := ⟨some 5, _, _, _, _, _⟩) rfl _ (.tmp 1) rfl (w.heap.size) rfl _ _ _ _ (E0.out.bx _ _ _ (.tail _ (.head _))) Tryd.underlying30 rfl IN.out ?_)
  generalize (w.alloc (.cells cs 30)).alloc (.cells #[.int .i64 0, .int .i64 0, .int .u32 0, .int .u32 0, .int .u32 0, .int .i64 0, .slice none 0 0, .int .u32 0, .int .i64 0, .slice none 0 0, .bool false, .int .u32 0, .int .u32 0, .int .i64 0, .int .i64 0, .int .i64 0, .slice none 0 0] 30) = w0 at *
  refine (mayS (E0.out.st _ _ (.head _))).mono ?_
  rintro e w1 ⟨rfl, hb1⟩
  rw [HM.out]
  have E1 := Lib.hid (E0.out.below hb1)
  clear hb1 E0
  go_wp2_with ((with_reducible show wpList _ _ _ _ _ _); refine wpList_store_row rfl _ (.tmp 2) (.tmp 8) rfl (w.heap.size + 1) zState rfl rfl _ _ (E1.out.bx _ _ _ (.head _)) (by kernel_rfl) (by rfl) (by kernel_rfl) ?_)
  have hrow : (w1.setRow (w.heap.size + 1) zState).heap[w.heap.size + 1]? = some (.cells zState 30 (0, 0)) := setRow_heap _ _ _ _ _ _ (E1.out.bx _ _ _ (.head _))
  refine bodyPost_ret (results_cell_tmp_row rfl _ _ (w.heap.size + 1) _ _ (0, 0) _ rfl hrow Tryd.underlying30 rfl (by kernel_rfl)) rfl ?_
  exact ⟨rfl, below_setRow2 E1.out.b (Nat.le_succ _) _⟩
set_option maxRecDepth 100000 in
set_option maxHeartbeats 3200000 in
theorem start_yes {w : World} {P : Nat → Prop} {cs : Array Value} {L : LSt} (h : IsSt w P cs L) (hm : L.may = true) : Calls Tryd.prog 9 #[.agg cs] w (RetSV L.start (.bool (decide (L.trial ≠ 0))) w) := by
  have HL := Lib.hid (light_of_may hm)
  obtain ⟨ha, ht0, ht3⟩ := stMay_act hm
  have e0 := (((Env.start w).addSt h).alloc cs 30).alloc #[.int .i64 0, .int .i64 0, .int .u32 0, .int .u32 0, .int .u32 0, .int .i64 0, .slice none 0 0, .int .u32 0, .int .i64 0, .slice none 0 0, .bool false, .int .u32 0, .int .u32 0, .int .i64 0, .int .i64 0, .int .i64 0, .slice none 0 0] 30
  rw [show (w.alloc (.cells cs 30)).heap.size = w.heap.size + 1 by simp] at e0
  have E0 := Lib.hid e0
  have HM := Lib.hid hm
  have IN := Lib.hid h.inf
  clear e0 h hm
  go_enter Tryd.func9, Tryd.ntmps9
  go_wp2_with ((with_reducible show wpList _ _ _ _ _ _); refine wpList_load_row (o := ⟨some 4, _, _, _, _, _⟩) rfl _ (.tmp 1) rfl (w.heap.size) rfl _ _ _ _ (E0.out.bx _ _ _ (.tail _ (.head _))) Tryd.underlying30 rfl IN.out ?_)
  generalize (w.alloc (.cells cs 30)).alloc (.cells #[.int .i64 0, .int .i64 0, .int .u32 0, .int .u32 0, .int .u32 0, .int .i64 0, .slice none 0 0, .int .u32 0, .int .i64 0, .slice none 0 0, .bool false, .int .u32 0, .int .u32 0, .int .i64 0, .int .i64 0, .int .i64 0, .slice none 0 0] 30) = w0 at *
  refine (mayS (E0.out.st _ _ (.head _))).mono ?_
  rintro e w1 ⟨rfl, hb1⟩
  rw [HM.out]
  have E1 := Lib.hid (E0.out.below hb1)
  clear hb1 E0
  go_wp2_with ((with_reducible show wpList _ _ _ _ _ _); refine wpList_load_row (o := ⟨some 8, _, _, _, _, _⟩) rfl _ (.tmp 1) rfl (w.heap.size) rfl _ _ _ _ (E1.out.bx _ _ _ (.tail _ (.head _))) Tryd.underlying30 rfl IN.out ?_)
  refine (ownS (E1.out.st _ _ (.head _)) HL.out).mono ?_
  rintro e w2 ⟨c1, rfl, S1, hb2⟩
  have E2 := Lib.hid (E1.out.below hb2.out)
  have I1 := Lib.hid S1.out.inf
  have O1 := Lib.hid S1.out.one
  have SZ1 : Hid (c1.size = 17) := Lib.hid S1.out.size
  have Z1 : Hid (cs.size = c1.size) := Lib.hid ((E1.out.st _ _ (.head _)).size.trans S1.out.size.symm)
  have x2 : (w2.setRow w.heap.size c1).heap[w.heap.size]? = some (.cells c1 30 (0, 0)) := setRow_heap _ _ _ _ _ _ (E2.out.bx _ _ _ (.tail _ (.head _)))
  have y2 : (w2.setRow w.heap.size c1).heap[w.heap.size + 1]? = some (.cells #[.int .i64 0, .int .i64 0, .int .u32 0, .int .u32 0, .int .u32 0, .int .i64 0, .slice none 0 0, .int .u32 0, .int .i64 0, .slice none 0 0, .bool false, .int .u32 0, .int .u32 0, .int .i64 0, .int .i64 0, .int .i64 0, .slice none 0 0] 30 (0, 0)) := (setRow_other w2 w.heap.size (w.heap.size + 1) c1 (by omega)).trans (E2.out.bx _ _ _ (.head _))
  have hz1 : w.heap.size + 1 < w1.heap.size := (Array.getElem?_eq_some_iff.1 (E1.out.bx _ _ _ (.head _))).1
  have s2 : IsSt (w2.setRow w.heap.size c1) (fun b => w.heap.size + 1 < b) c1 L :=
    (S1.out.imp (P' := fun b => w.heap.size + 1 < b) fun b _ hb => Nat.lt_of_lt_of_le hz1 hb).keep (by simp) fun b hb _ => setRow_other w2 w.heap.size b c1 (by omega)
  have b2 : Below w.heap.size w (w2.setRow w.heap.size c1) := below_setRow2 E2.out.b (Nat.le_refl _) _
  have X2 := Lib.hid x2
  have Y2 := Lib.hid y2
  have S2 := Lib.hid s2
  have B2 := Lib.hid b2
  have E2X := Lib.hid (E2.out.bx _ _ _ (.tail _ (.head _)))
  clear x2 y2 s2 b2 hz1 E1 hb2 S1 E2
  go_upto_region 4 with ((with_reducible show wpList _ _ _ _ _ _); refine wpList_store_row rfl _ (.tmp 1) (.tmp 9) rfl (w.heap.size) c1 rfl rfl _ _ E2X.out I1.out Z1.out O1.out ?_)
  clear E2X
  generalize w2.setRow w.heap.size c1 = w3 at *
  have k1 := (cell_of_row _ _ 1 _ _ _ X2.out).trans S2.out.c1
  by_cases t0 : L.trial = 0
  · have q0 : ((L.trial : Int) == 0) = true := by simp [t0]
    have fin : LSt.start L = L := by unfold LSt.start; rw [if_pos t0]
    go_wp2_with (first
      | ((with_reducible show wpList _ _ _ _ _ _); refine wpList_load_row (o := ⟨some 14, _, _, _, _, _⟩) rfl _ (.tmp 1) rfl (w.heap.size) rfl _ _ _ _ (X2.out) Tryd.underlying30 rfl I1.out ?_)
      | ((with_reducible show wpList _ _ _ _ _ _); refine wpList_store_row rfl _ (.tmp 2) (.tmp 14) rfl (w.heap.size + 1) c1 rfl rfl _ _ Y2.out I1.out SZ1.out.symm O1.out ?_))
    have hrow : (w3.setRow (w.heap.size + 1) c1).heap[w.heap.size + 1]? = some (.cells c1 30 (0, 0)) := setRow_heap _ _ _ _ _ _ Y2.out
    refine bodyPost_ret (results_cell_tmp_row rfl _ _ (w.heap.size + 1) _ _ (0, 0) _ rfl hrow Tryd.underlying30 rfl I1.out) rfl ?_
    try rw [fin]
    refine ⟨c1, by simp [t0], Lib.hid ((S2.out.keep (by simp) fun b hb _ => setRow_other w3 (w.heap.size + 1) b c1 (Nat.ne_of_gt hb)).imp fun b _ hb => by omega), Lib.hid (below_setRow2 B2.out (Nat.le_succ _) _)⟩
  have q0 : ((L.trial : Int) == 0) = false := by simp [t0]
  have q9 : IntKind.i64.wrap (L.trial - 1) = L.trial - 1 := by rw [IntKind.wrap_i64]; omega
  have f1 := frozen_of_row w3 w.heap.size 1 _ _ X2.out
  by_cases t1 : L.trial = 1
  · have q1 : ((L.trial : Int) == 1) = true := by simp [t1]
    have q8 : IntKind.i64.wrap (1 - L.act) = 1 - L.act := by rw [IntKind.wrap_i64]; omega
    have k0 := (cell_of_row _ _ 0 _ _ _ X2.out).trans S2.out.c0
    have f0 := frozen_of_row w3 w.heap.size 0 _ _ X2.out
    have x3 := heap_setCell_same w3 w.heap.size 0 _ _ (.int .i64 (1 - L.act)) X2.out
    have x4 := heap_setCell_same _ w.heap.size 1 _ _ (.int .i64 0) x3
    have y4 : ((w3.setCell ⟨w.heap.size, 0, none⟩ (.int .i64 (1 - L.act))).setCell ⟨w.heap.size, 1, none⟩ (.int .i64 0)).heap[w.heap.size + 1]? = some (.cells #[.int .i64 0, .int .i64 0, .int .u32 0, .int .u32 0, .int .u32 0, .int .i64 0, .slice none 0 0, .int .u32 0, .int .i64 0, .slice none 0 0, .bool false, .int .u32 0, .int .u32 0, .int .i64 0, .int .i64 0, .int .i64 0, .slice none 0 0] 30 (0, 0)) :=
      (heap_setCell_other _ _ _ _ (by show w.heap.size + 1 ≠ w.heap.size; omega)).trans ((heap_setCell_other _ _ _ _ (by show w.heap.size + 1 ≠ w.heap.size; omega)).trans Y2.out)
    have s4 : IsSt ((w3.setCell ⟨w.heap.size, 0, none⟩ (.int .i64 (1 - L.act))).setCell ⟨w.heap.size, 1, none⟩ (.int .i64 0)) (fun b => w.heap.size + 1 < b) _ _ :=
      ((S2.out.set0 (1 - L.act)).set1 0).keep (by simp) fun b hb _ => (heap_setCell_other _ _ _ _ (by show b ≠ w.heap.size; omega)).trans (heap_setCell_other _ _ _ _ (by show b ≠ w.heap.size; omega))
    have b4 : Below w.heap.size w ((w3.setCell ⟨w.heap.size, 0, none⟩ (.int .i64 (1 - L.act))).setCell ⟨w.heap.size, 1, none⟩ (.int .i64 0)) := (B2.out.setCell (Nat.le_refl _) _).setCell (Nat.le_refl _) _
    have X4 := Lib.hid x4
    have Y4 := Lib.hid y4
    have S4 := Lib.hid s4
    have B4 := Lib.hid b4
    have I4 := Lib.hid s4.inf
    have O4 := Lib.hid s4.one
    have Z4 := Lib.hid s4.size
    clear x3 x4 y4 s4 b4
    generalize hc4 : (c1.setIfInBounds 0 (.int .i64 (1 - L.act))).setIfInBounds 1 (.int .i64 0) = c4 at X4 S4 I4 O4 Z4
    go_upto_region 10 with fail
    clear k0 f0 k1 f1
    generalize (w3.setCell ⟨w.heap.size, 0, none⟩ (.int .i64 (1 - L.act))).setCell ⟨w.heap.size, 1, none⟩ (.int .i64 0) = w4 at *
    have fin : LSt.start L = { L with act := 1 - L.act, trial := 0 } := by unfold LSt.start; rw [if_neg t0, if_pos t1, t1]; rfl
    go_wp2_with (first
      | ((with_reducible show wpList _ _ _ _ _ _); refine wpList_load_row (o := ⟨some 25, _, _, _, _, _⟩) rfl _ (.tmp 1) rfl (w.heap.size) rfl _ _ _ _ (X4.out) Tryd.underlying30 rfl I4.out ?_)
      | ((with_reducible show wpList _ _ _ _ _ _); refine wpList_store_row rfl _ (.tmp 2) (.tmp 25) rfl (w.heap.size + 1) c4 rfl rfl _ _ Y4.out I4.out Z4.out.symm O4.out ?_))
    have hrow : (w4.setRow (w.heap.size + 1) c4).heap[w.heap.size + 1]? = some (.cells c4 30 (0, 0)) := setRow_heap _ _ _ _ _ _ Y4.out
    refine bodyPost_ret (results_cell_tmp_row rfl _ _ (w.heap.size + 1) _ _ (0, 0) _ rfl hrow Tryd.underlying30 rfl I4.out) rfl ?_
    try rw [fin]
    refine ⟨c4, by simp, Lib.hid ((S4.out.keep (by simp) fun b hb _ => setRow_other w4 (w.heap.size + 1) b c4 (Nat.ne_of_gt hb)).imp fun b _ hb => by omega), Lib.hid (below_setRow2 B4.out (Nat.le_succ _) _)⟩
  · have q1 : ((L.trial : Int) == 1) = false := by simp [t1]
    have x4 := heap_setCell_same w3 w.heap.size 1 _ _ (.int .i64 (L.trial - 1)) X2.out
    have y4 : (w3.setCell ⟨w.heap.size, 1, none⟩ (.int .i64 (L.trial - 1))).heap[w.heap.size + 1]? = some (.cells #[.int .i64 0, .int .i64 0, .int .u32 0, .int .u32 0, .int .u32 0, .int .i64 0, .slice none 0 0, .int .u32 0, .int .i64 0, .slice none 0 0, .bool false, .int .u32 0, .int .u32 0, .int .i64 0, .int .i64 0, .int .i64 0, .slice none 0 0] 30 (0, 0)) :=
      (heap_setCell_other _ _ _ _ (by show w.heap.size + 1 ≠ w.heap.size; omega)).trans Y2.out
    have s4 : IsSt (w3.setCell ⟨w.heap.size, 1, none⟩ (.int .i64 (L.trial - 1))) (fun b => w.heap.size + 1 < b) _ _ :=
      (S2.out.set1 (L.trial - 1)).keep (by simp) fun b hb _ => heap_setCell_other _ _ _ _ (by show b ≠ w.heap.size; omega)
    have b4 : Below w.heap.size w (w3.setCell ⟨w.heap.size, 1, none⟩ (.int .i64 (L.trial - 1))) := B2.out.setCell (Nat.le_refl _) _
    have X4 := Lib.hid x4
    have Y4 := Lib.hid y4
    have S4 := Lib.hid s4
    have B4 := Lib.hid b4
    have I4 := Lib.hid s4.inf
    have O4 := Lib.hid s4.one
    have Z4 := Lib.hid s4.size
    clear x4 y4 s4 b4
    generalize hc4 : c1.setIfInBounds 1 (.int .i64 (L.trial - 1)) = c4 at X4 S4 I4 O4 Z4
    go_upto_region 10 with fail
    clear k1 f1
    generalize w3.setCell ⟨w.heap.size, 1, none⟩ (.int .i64 (L.trial - 1)) = w4 at *
    have fin : LSt.start L = { L with trial := L.trial - 1 } := by unfold LSt.start; rw [if_neg t0, if_neg t1]
    go_wp2_with (first
      | ((with_reducible show wpList _ _ _ _ _ _); refine wpList_load_row (o := ⟨some 25, _, _, _, _, _⟩) rfl _ (.tmp 1) rfl (w.heap.size) rfl _ _ _ _ (X4.out) Tryd.underlying30 rfl I4.out ?_)
      | ((with_reducible show wpList _ _ _ _ _ _); refine wpList_store_row rfl _ (.tmp 2) (.tmp 25) rfl (w.heap.size + 1) c4 rfl rfl _ _ Y4.out I4.out Z4.out.symm O4.out ?_))
    have hrow : (w4.setRow (w.heap.size + 1) c4).heap[w.heap.size + 1]? = some (.cells c4 30 (0, 0)) := setRow_heap _ _ _ _ _ _ Y4.out
    refine bodyPost_ret (results_cell_tmp_row rfl _ _ (w.heap.size + 1) _ _ (0, 0) _ rfl hrow Tryd.underlying30 rfl I4.out) rfl ?_
    try rw [fin]
    refine ⟨c4, by simp [t0], Lib.hid ((S4.out.keep (by simp) fun b hb _ => setRow_other w4 (w.heap.size + 1) b c4 (Nat.ne_of_gt hb)).imp fun b _ hb => by omega), Lib.hid (below_setRow2 B4.out (Nat.le_succ _) _)⟩
end Go.Proofs.YtoclckfpbmglfaaDoor
