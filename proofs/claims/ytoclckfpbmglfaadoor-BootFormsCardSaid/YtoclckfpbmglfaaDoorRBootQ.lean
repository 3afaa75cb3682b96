/- The reference's Drop: by contract, states as data. -/
import Derived.Test.YtoclckfpbmglfaaDoorRBootHQ
namespace Go.Proofs.YtoclckfpbmglfaaDoor
open Go.RowKit
set_option maxRecDepth 100000 in
set_option maxHeartbeats 3200000 in
theorem rdrop_yes {w : World} {P : Nat → Prop} {cs : Array Value} {L : LSt} (h : IsSt w P cs L) (hm : L.may = true) : Calls Tryd.prog 19 #[.agg cs] w (RetQ L.drop P w) := by
  have hd : L.drop = { L with on := false, m := LMan.zero } := by unfold LSt.drop; rw [if_pos hm]
  rw [hd]
  clear hd
  obtain ⟨UA0, Uc0, UA1, Uc1, UA, Uc, hcs, -, -, -⟩ := id h
  have HC := Lib.hid hcs
  clear hcs
  have e0 := (((Env.start w).addSt h).alloc cs 30).alloc #[.int .i64 0, .int .i64 0, .int .u32 0, .int .u32 0, .int .u32 0, .int .i64 0, .slice none 0 0, .int .u32 0, .int .i64 0, .slice none 0 0, .bool false, .int .u32 0, .int .u32 0, .int .i64 0, .int .i64 0, .int .i64 0, .slice none 0 0] 30
  rw [show (w.alloc (.cells cs 30)).heap.size = w.heap.size + 1 by simp] at e0
  have E0 := Lib.hid e0
  have HM := Lib.hid hm
  have IN := Lib.hid h.inf
  have S0 := Lib.hid h
  have ON := Lib.hid h.one
  have SZ := Lib.hid h.size
  clear e0 h hm
  go_enter Tryd.func19, Tryd.ntmps19
  go_wp2_with ((with_reducible show wpList _ _ _ _ _ _); refine wpList_load_row (o := ⟨some 3, _, _, _, _, _⟩) rfl _ (.tmp 1) rfl (w.heap.size) rfl _ _ _ _ (E0.out.bx _ _ _ (.tail _ (.head _))) Tryd.underlying30 rfl IN.out ?_)
  generalize (w.alloc (.cells cs 30)).alloc (.cells #[.int .i64 0, .int .i64 0, .int .u32 0, .int .u32 0, .int .u32 0, .int .i64 0, .slice none 0 0, .int .u32 0, .int .i64 0, .slice none 0 0, .bool false, .int .u32 0, .int .u32 0, .int .i64 0, .int .i64 0, .int .i64 0, .slice none 0 0] 30) = w0 at *
  refine (rmayS (E0.out.st _ _ (.head _))).mono ?_
  rintro e w1 ⟨rfl, hb1⟩
  rw [HM.out]
  have E1 := Lib.hid (E0.out.below hb1)
  clear hb1 E0
  have X2 := Lib.hid (E1.out.bx _ _ _ (.tail _ (.head _)))
  have Y2 := Lib.hid (E1.out.bx _ _ _ (.head _))
  have B2 := Lib.hid E1.out.b
  clear E1
  have k10 : w1.cell? ⟨w.heap.size, 10, none⟩ = some (.bool L.on) := (cell_of_row _ _ 10 _ _ _ X2.out).trans (by rw [HC.out]; rfl)
  have f10 := frozen_of_row w1 w.heap.size 10 _ _ X2.out
  have k11 : w1.cell? ⟨w.heap.size, 11, none⟩ = some (.int .u32 (L.m.s : Int)) := (cell_of_row _ _ 11 _ _ _ X2.out).trans (by rw [HC.out]; rfl)
  have f11 := frozen_of_row w1 w.heap.size 11 _ _ X2.out
  have k12 : w1.cell? ⟨w.heap.size, 12, none⟩ = some (.int .u32 (L.m.v : Int)) := (cell_of_row _ _ 12 _ _ _ X2.out).trans (by rw [HC.out]; rfl)
  have f12 := frozen_of_row w1 w.heap.size 12 _ _ X2.out
  have k13 : w1.cell? ⟨w.heap.size, 13, none⟩ = some (.int .i64 L.m.l) := (cell_of_row _ _ 13 _ _ _ X2.out).trans (by rw [HC.out]; rfl)
  have f13 := frozen_of_row w1 w.heap.size 13 _ _ X2.out
  have k14 : w1.cell? ⟨w.heap.size, 14, none⟩ = some (.int .i64 L.m.z) := (cell_of_row _ _ 14 _ _ _ X2.out).trans (by rw [HC.out]; rfl)
  have f14 := frozen_of_row w1 w.heap.size 14 _ _ X2.out
  have k15 : w1.cell? ⟨w.heap.size, 15, none⟩ = some (.int .i64 L.m.p) := (cell_of_row _ _ 15 _ _ _ X2.out).trans (by rw [HC.out]; rfl)
  have f15 := frozen_of_row w1 w.heap.size 15 _ _ X2.out
  have k16 : w1.cell? ⟨w.heap.size, 16, none⟩ = some (.slice UA L.m.h.length Uc) := (cell_of_row _ _ 16 _ _ _ X2.out).trans (by rw [HC.out]; rfl)
  have f16 := frozen_of_row w1 w.heap.size 16 _ _ X2.out
  have X4 := Lib.hid (heap_setCell_same _ w.heap.size 16 _ _ (.slice none 0 0) (heap_setCell_same _ w.heap.size 15 _ _ (.int .i64 0) (heap_setCell_same _ w.heap.size 14 _ _ (.int .i64 0) (heap_setCell_same _ w.heap.size 13 _ _ (.int .i64 0) (heap_setCell_same _ w.heap.size 12 _ _ (.int .u32 0) (heap_setCell_same _ w.heap.size 11 _ _ (.int .u32 0) (heap_setCell_same _ w.heap.size 10 _ _ (.bool false) X2.out)))))))
  have Y4 : Hid ((((((((w1.setCell ⟨w.heap.size, 10, none⟩ (.bool false)).setCell ⟨w.heap.size, 11, none⟩ (.int .u32 0)).setCell ⟨w.heap.size, 12, none⟩ (.int .u32 0)).setCell ⟨w.heap.size, 13, none⟩ (.int .i64 0)).setCell ⟨w.heap.size, 14, none⟩ (.int .i64 0)).setCell ⟨w.heap.size, 15, none⟩ (.int .i64 0)).setCell ⟨w.heap.size, 16, none⟩ (.slice none 0 0)).heap[w.heap.size + 1]? = some (.cells #[.int .i64 0, .int .i64 0, .int .u32 0, .int .u32 0, .int .u32 0, .int .i64 0, .slice none 0 0, .int .u32 0, .int .i64 0, .slice none 0 0, .bool false, .int .u32 0, .int .u32 0, .int .i64 0, .int .i64 0, .int .i64 0, .slice none 0 0] 30 (0, 0))) := Lib.hid ((heap_setCell_other _ _ _ _ (by show w.heap.size + 1 ≠ w.heap.size; omega)).trans ((heap_setCell_other _ _ _ _ (by show w.heap.size + 1 ≠ w.heap.size; omega)).trans ((heap_setCell_other _ _ _ _ (by show w.heap.size + 1 ≠ w.heap.size; omega)).trans ((heap_setCell_other _ _ _ _ (by show w.heap.size + 1 ≠ w.heap.size; omega)).trans ((heap_setCell_other _ _ _ _ (by show w.heap.size + 1 ≠ w.heap.size; omega)).trans ((heap_setCell_other _ _ _ _ (by show w.heap.size + 1 ≠ w.heap.size; omega)).trans ((heap_setCell_other _ _ _ _ (by show w.heap.size + 1 ≠ w.heap.size; omega)).trans Y2.out)))))))
  have B4 : Hid (Below w.heap.size w (((((((w1.setCell ⟨w.heap.size, 10, none⟩ (.bool false)).setCell ⟨w.heap.size, 11, none⟩ (.int .u32 0)).setCell ⟨w.heap.size, 12, none⟩ (.int .u32 0)).setCell ⟨w.heap.size, 13, none⟩ (.int .i64 0)).setCell ⟨w.heap.size, 14, none⟩ (.int .i64 0)).setCell ⟨w.heap.size, 15, none⟩ (.int .i64 0)).setCell ⟨w.heap.size, 16, none⟩ (.slice none 0 0))) := Lib.hid (((((((B2.out.setCell (Nat.le_refl _) _).setCell (Nat.le_refl _) _).setCell (Nat.le_refl _) _).setCell (Nat.le_refl _) _).setCell (Nat.le_refl _) _).setCell (Nat.le_refl _) _).setCell (Nat.le_refl _) _)
  have S4 := Lib.hid (S0.out.setOff)
  have I4 := Lib.hid S4.out.inf
  have O4 := Lib.hid S4.out.one
  have Z4 := Lib.hid S4.out.size
  generalize hc4 : (((((((cs.setIfInBounds 10 (.bool false)).setIfInBounds 11 (.int .u32 0)).setIfInBounds 12 (.int .u32 0)).setIfInBounds 13 (.int .i64 0)).setIfInBounds 14 (.int .i64 0)).setIfInBounds 15 (.int .i64 0)).setIfInBounds 16 (.slice none 0 0)) = c4 at X4 S4 I4 O4 Z4
  go_upto_region 4 with fail
  clear k10 k11 k12 k13 k14 k15 k16 f10 f11 f12 f13 f14 f15 f16 HC
  generalize (((((((w1.setCell ⟨w.heap.size, 10, none⟩ (.bool false)).setCell ⟨w.heap.size, 11, none⟩ (.int .u32 0)).setCell ⟨w.heap.size, 12, none⟩ (.int .u32 0)).setCell ⟨w.heap.size, 13, none⟩ (.int .i64 0)).setCell ⟨w.heap.size, 14, none⟩ (.int .i64 0)).setCell ⟨w.heap.size, 15, none⟩ (.int .i64 0)).setCell ⟨w.heap.size, 16, none⟩ (.slice none 0 0)) = w4 at *
  go_wp2_with (first
    | ((with_reducible show wpList _ _ _ _ _ _); refine wpList_load_row (o := ⟨some 10, _, _, _, _, _⟩) rfl _ (.tmp 1) rfl (w.heap.size) rfl _ _ _ _ (X4.out) Tryd.underlying30 rfl I4.out ?_)
    | ((with_reducible show wpList _ _ _ _ _ _); refine wpList_store_row rfl _ (.tmp 2) (.tmp 10) rfl (w.heap.size + 1) c4 rfl rfl _ _ Y4.out I4.out Z4.out.symm O4.out ?_))
  have hrow : (w4.setRow (w.heap.size + 1) c4).heap[w.heap.size + 1]? = some (.cells c4 30 (0, 0)) := setRow_heap _ _ _ _ _ _ Y4.out
  refine bodyPost_ret (results_cell_row rfl _ _ (w.heap.size + 1) _ _ (0, 0) _ rfl hrow Tryd.underlying30 rfl I4.out) rfl ?_
  
  have hfin := below_setRow2 B4.out (Nat.le_succ _) c4
  exact ⟨c4, rfl, Lib.hid (S4.out), Lib.hid hfin⟩
end Go.Proofs.YtoclckfpbmglfaaDoor
