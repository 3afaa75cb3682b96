/- The reference's Start: by contract, states as data. -/
import Derived.Test.YtoclckfpbmglfaaDoorRBootHQ
namespace Go.Proofs.YtoclckfpbmglfaaDoor
open Go.RowKit
set_option maxRecDepth 100000 in
set_option maxHeartbeats 3200000 in
theorem rstart_yes {w : World} {P : Nat → Prop} {cs : Array Value} {L : LSt} (h : IsSt w P cs L) (hm : L.may = true) : Calls Tryd.prog 14 #[.agg cs] w (RetR L.start (.bool (decide (L.trial ≠ 0))) w) := by
  obtain ⟨ha, ht0, ht3⟩ := stMay_act hm
  have e0 := (((Env.start w).addSt h).alloc cs 30).alloc #[.int .i64 0, .int .i64 0, .int .u32 0, .int .u32 0, .int .u32 0, .int .i64 0, .slice none 0 0, .int .u32 0, .int .i64 0, .slice none 0 0, .bool false, .int .u32 0, .int .u32 0, .int .i64 0, .int .i64 0, .int .i64 0, .slice none 0 0] 30
  rw [show (w.alloc (.cells cs 30)).heap.size = w.heap.size + 1 by simp] at e0
  have E0 := Lib.hid e0
  have HM := Lib.hid hm
  have IN := Lib.hid h.inf
  have S0 := Lib.hid h
  have ON := Lib.hid h.one
  have SZ := Lib.hid h.size
  clear e0 h hm
  go_enter Tryd.func14, Tryd.ntmps14
  go_wp2_with ((with_reducible show wpList _ _ _ _ _ _); refine wpList_load_row (o := ⟨some 4, _, _, _, _, _⟩) rfl _ (.tmp 1) rfl (w.heap.size) rfl _ _ _ _ (E0.out.bx _ _ _ (.tail _ (.head _))) Tryd.underlying30 rfl IN.out ?_)
  generalize (w.alloc (.cells cs 30)).alloc (.cells #[.int .i64 0, .int .i64 0, .int .u32 0, .int .u32 0, .int .u32 0, .int .i64 0, .slice none 0 0, .int .u32 0, .int .i64 0, .slice none 0 0, .bool false, .int .u32 0, .int .u32 0, .int .i64 0, .int .i64 0, .int .i64 0, .slice none 0 0] 30) = w0 at *
  refine (rmayS (E0.out.st _ _ (.head _))).mono ?_
  rintro e w1 ⟨rfl, hb1⟩
  rw [HM.out]
  have E1 := Lib.hid (E0.out.below hb1)
  clear hb1 E0
  have X2 := Lib.hid (E1.out.bx _ _ _ (.tail _ (.head _)))
  have Y2 := Lib.hid (E1.out.bx _ _ _ (.head _))
  have B2 := Lib.hid E1.out.b
  clear E1
  have k1 := (cell_of_row _ _ 1 _ _ _ X2.out).trans S0.out.c1
  by_cases t0 : L.trial = 0
  · have q0 : ((L.trial : Int) == 0) = true := by simp [t0]
    have fin : LSt.start L = L := by unfold LSt.start; rw [if_pos t0]
    go_wp2_with (first
      | ((with_reducible show wpList _ _ _ _ _ _); refine wpList_load_row (o := ⟨some 12, _, _, _, _, _⟩) rfl _ (.tmp 1) rfl (w.heap.size) rfl _ _ _ _ (X2.out) Tryd.underlying30 rfl IN.out ?_)
      | ((with_reducible show wpList _ _ _ _ _ _); refine wpList_store_row rfl _ (.tmp 2) (.tmp 12) rfl (w.heap.size + 1) cs rfl rfl _ _ Y2.out IN.out SZ.out.symm ON.out ?_))
    have hrow : (w1.setRow (w.heap.size + 1) cs).heap[w.heap.size + 1]? = some (.cells cs 30 (0, 0)) := setRow_heap _ _ _ _ _ _ Y2.out
    refine bodyPost_ret (results_cell_tmp_row rfl _ _ (w.heap.size + 1) _ _ (0, 0) _ rfl hrow Tryd.underlying30 rfl IN.out) rfl ?_
    try rw [fin]
    have hfin := below_setRow2 B2.out (Nat.le_succ _) cs
    exact ⟨cs, by simp [t0], Lib.hid ((S0.out.below hfin).imp fun _ _ _ => trivial), Lib.hid hfin⟩
  have q0 : ((L.trial : Int) == 0) = false := by simp [t0]
  have q9 : IntKind.i64.wrap (L.trial - 1) = L.trial - 1 := by rw [IntKind.wrap_i64]; omega
  have f1 := frozen_of_row w1 w.heap.size 1 _ _ X2.out
  by_cases t1 : L.trial = 1
  · have q1 : ((L.trial : Int) == 1) = true := by simp [t1]
    have q8 : IntKind.i64.wrap (1 - L.act) = 1 - L.act := by rw [IntKind.wrap_i64]; omega
    have k0 := (cell_of_row _ _ 0 _ _ _ X2.out).trans S0.out.c0
    have f0 := frozen_of_row w1 w.heap.size 0 _ _ X2.out
    have fin : LSt.start L = { L with act := 1 - L.act, trial := 0 } := by unfold LSt.start; rw [if_neg t0, if_pos t1, t1]; rfl
    have X4 := Lib.hid (heap_setCell_same _ w.heap.size 1 _ _ (.int .i64 0) (heap_setCell_same _ w.heap.size 0 _ _ (.int .i64 (1 - L.act)) X2.out))
    have Y4 : Hid (((w1.setCell ⟨w.heap.size, 0, none⟩ (.int .i64 (1 - L.act))).setCell ⟨w.heap.size, 1, none⟩ (.int .i64 0)).heap[w.heap.size + 1]? = some (.cells #[.int .i64 0, .int .i64 0, .int .u32 0, .int .u32 0, .int .u32 0, .int .i64 0, .slice none 0 0, .int .u32 0, .int .i64 0, .slice none 0 0, .bool false, .int .u32 0, .int .u32 0, .int .i64 0, .int .i64 0, .int .i64 0, .slice none 0 0] 30 (0, 0))) := Lib.hid ((heap_setCell_other _ _ _ _ (by show w.heap.size + 1 ≠ w.heap.size; omega)).trans ((heap_setCell_other _ _ _ _ (by show w.heap.size + 1 ≠ w.heap.size; omega)).trans Y2.out))
    have B4 : Hid (Below w.heap.size w ((w1.setCell ⟨w.heap.size, 0, none⟩ (.int .i64 (1 - L.act))).setCell ⟨w.heap.size, 1, none⟩ (.int .i64 0))) := Lib.hid ((B2.out.setCell (Nat.le_refl _) _).setCell (Nat.le_refl _) _)
    have S4 := Lib.hid ((S0.out.set0 (1 - L.act)).set1 0)
    have I4 := Lib.hid S4.out.inf
    have O4 := Lib.hid S4.out.one
    have Z4 := Lib.hid S4.out.size
    generalize hc4 : ((cs.setIfInBounds 0 (.int .i64 (1 - L.act))).setIfInBounds 1 (.int .i64 0)) = c4 at X4 S4 I4 O4 Z4
    go_upto_region 9 with fail
    clear k0 f0 k1 f1
    generalize ((w1.setCell ⟨w.heap.size, 0, none⟩ (.int .i64 (1 - L.act))).setCell ⟨w.heap.size, 1, none⟩ (.int .i64 0)) = w4 at *
    go_wp2_with (first
      | ((with_reducible show wpList _ _ _ _ _ _); refine wpList_load_row (o := ⟨some 23, _, _, _, _, _⟩) rfl _ (.tmp 1) rfl (w.heap.size) rfl _ _ _ _ (X4.out) Tryd.underlying30 rfl I4.out ?_)
      | ((with_reducible show wpList _ _ _ _ _ _); refine wpList_store_row rfl _ (.tmp 2) (.tmp 23) rfl (w.heap.size + 1) c4 rfl rfl _ _ Y4.out I4.out Z4.out.symm O4.out ?_))
    have hrow : (w4.setRow (w.heap.size + 1) c4).heap[w.heap.size + 1]? = some (.cells c4 30 (0, 0)) := setRow_heap _ _ _ _ _ _ Y4.out
    refine bodyPost_ret (results_cell_tmp_row rfl _ _ (w.heap.size + 1) _ _ (0, 0) _ rfl hrow Tryd.underlying30 rfl I4.out) rfl ?_
    try rw [fin]
    have hfin := below_setRow2 B4.out (Nat.le_succ _) c4
    exact ⟨c4, by simp [t1], Lib.hid ((S4.out.below hfin).imp fun _ _ _ => trivial), Lib.hid hfin⟩
  · have q1 : ((L.trial : Int) == 1) = false := by simp [t1]
    have fin : LSt.start L = { L with trial := L.trial - 1 } := by unfold LSt.start; rw [if_neg t0, if_neg t1]
    have X4 := Lib.hid (heap_setCell_same _ w.heap.size 1 _ _ (.int .i64 (L.trial - 1)) X2.out)
    have Y4 : Hid ((w1.setCell ⟨w.heap.size, 1, none⟩ (.int .i64 (L.trial - 1))).heap[w.heap.size + 1]? = some (.cells #[.int .i64 0, .int .i64 0, .int .u32 0, .int .u32 0, .int .u32 0, .int .i64 0, .slice none 0 0, .int .u32 0, .int .i64 0, .slice none 0 0, .bool false, .int .u32 0, .int .u32 0, .int .i64 0, .int .i64 0, .int .i64 0, .slice none 0 0] 30 (0, 0))) := Lib.hid ((heap_setCell_other _ _ _ _ (by show w.heap.size + 1 ≠ w.heap.size; omega)).trans Y2.out)
    have B4 : Hid (Below w.heap.size w (w1.setCell ⟨w.heap.size, 1, none⟩ (.int .i64 (L.trial - 1)))) := Lib.hid (B2.out.setCell (Nat.le_refl _) _)
    have S4 := Lib.hid (S0.out.set1 (L.trial - 1))
    have I4 := Lib.hid S4.out.inf
    have O4 := Lib.hid S4.out.one
    have Z4 := Lib.hid S4.out.size
    generalize hc4 : (cs.setIfInBounds 1 (.int .i64 (L.trial - 1))) = c4 at X4 S4 I4 O4 Z4
    go_upto_region 9 with fail
    clear k1 f1
    generalize (w1.setCell ⟨w.heap.size, 1, none⟩ (.int .i64 (L.trial - 1))) = w4 at *
    go_wp2_with (first
      | ((with_reducible show wpList _ _ _ _ _ _); refine wpList_load_row (o := ⟨some 23, _, _, _, _, _⟩) rfl _ (.tmp 1) rfl (w.heap.size) rfl _ _ _ _ (X4.out) Tryd.underlying30 rfl I4.out ?_)
      | ((with_reducible show wpList _ _ _ _ _ _); refine wpList_store_row rfl _ (.tmp 2) (.tmp 23) rfl (w.heap.size + 1) c4 rfl rfl _ _ Y4.out I4.out Z4.out.symm O4.out ?_))
    have hrow : (w4.setRow (w.heap.size + 1) c4).heap[w.heap.size + 1]? = some (.cells c4 30 (0, 0)) := setRow_heap _ _ _ _ _ _ Y4.out
    refine bodyPost_ret (results_cell_tmp_row rfl _ _ (w.heap.size + 1) _ _ (0, 0) _ rfl hrow Tryd.underlying30 rfl I4.out) rfl ?_
    try rw [fin]
    have hfin := below_setRow2 B4.out (Nat.le_succ _) c4
    exact ⟨c4, by simp [t0], Lib.hid ((S4.out.below hfin).imp fun _ _ _ => trivial), Lib.hid hfin⟩
end Go.Proofs.YtoclckfpbmglfaaDoor
