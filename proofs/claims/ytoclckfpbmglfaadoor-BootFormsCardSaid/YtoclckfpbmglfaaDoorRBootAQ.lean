/- The reference's Activate: by contract, states as data. -/
import Derived.Test.YtoclckfpbmglfaaDoorRBootQ
namespace Go.Proofs.YtoclckfpbmglfaaDoor
open Go.RowKit
theorem act_may0 {L : LSt} (h : L.may = true) (ho : L.on = true) (ha : L.act = 0) : ({ L with act := 1, v1 := L.m.v, l1 := L.m.l, h1 := L.m.h, trial := 3 } : LSt).may = true ∧ ({ L with act := 1, v1 := L.m.v, l1 := L.m.l, h1 := L.m.h, trial := 3 } : LSt).drop = L.activate := by
  have hm : ({ L with act := 1, v1 := L.m.v, l1 := L.m.l, h1 := L.m.h, trial := 3 } : LSt).may = true := by
    have hx := activate_may h ho
    unfold LSt.activate at hx
    rw [if_pos ha, ha] at hx
    unfold LSt.may mayB2 at h hx ⊢
    simp only [Bool.and_eq_true] at h hx ⊢
    rw [ho] at h
    exact ⟨⟨⟨hx.1.1.1, hx.1.1.2⟩, by rw [ho]; exact h.1.2⟩, hx.2⟩
  refine ⟨hm, ?_⟩
  unfold LSt.drop LSt.activate
  rw [if_pos hm, if_pos ha, ha]
  rfl
theorem act_may1 {L : LSt} (h : L.may = true) (ho : L.on = true) (ha : L.act = 1) : ({ L with act := 0, v0 := L.m.v, l0 := L.m.l, h0 := L.m.h, trial := 3 } : LSt).may = true ∧ ({ L with act := 0, v0 := L.m.v, l0 := L.m.l, h0 := L.m.h, trial := 3 } : LSt).drop = L.activate := by
  have h01 : ¬ L.act = 0 := by omega
  have hm : ({ L with act := 0, v0 := L.m.v, l0 := L.m.l, h0 := L.m.h, trial := 3 } : LSt).may = true := by
    have hx := activate_may h ho
    unfold LSt.activate at hx
    rw [if_neg h01, ha] at hx
    unfold LSt.may mayB2 at h hx ⊢
    simp only [Bool.and_eq_true] at h hx ⊢
    rw [ho] at h
    exact ⟨⟨⟨hx.1.1.1, hx.1.1.2⟩, by rw [ho]; exact h.1.2⟩, hx.2⟩
  refine ⟨hm, ?_⟩
  unfold LSt.drop LSt.activate
  rw [if_pos hm, if_neg h01, ha]
  rfl
set_option maxRecDepth 100000 in
set_option maxHeartbeats 3200000 in
theorem ractivate_st {w : World} {P : Nat → Prop} {cs : Array Value} {L : LSt} (h : IsSt w P cs L) (hm : L.may = true) (ho : ¬ (L.on = true ∧ L.trial = 0)) : Calls Tryd.prog 17 #[.agg cs] w (fun e w' => e = .returned (.tuple #[.agg zState, .int .i64 12]) ∧ Below w.heap.size w w') := by
  have HO := Lib.hid ho
  clear ho
  have e0 := (((Env.start w).addSt h).alloc cs 30).alloc #[.int .i64 0, .int .i64 0, .int .u32 0, .int .u32 0, .int .u32 0, .int .i64 0, .slice none 0 0, .int .u32 0, .int .i64 0, .slice none 0 0, .bool false, .int .u32 0, .int .u32 0, .int .i64 0, .int .i64 0, .int .i64 0, .slice none 0 0] 30
  rw [show (w.alloc (.cells cs 30)).heap.size = w.heap.size + 1 by simp] at e0
  have E0 := Lib.hid e0
  have HM := Lib.hid hm
  have IN := Lib.hid h.inf
  have S0 := Lib.hid h
  have ON := Lib.hid h.one
  have SZ := Lib.hid h.size
  clear e0 h hm
  go_enter Tryd.func17, Tryd.ntmps17
  go_wp2_with ((with_reducible show wpList _ _ _ _ _ _); refine wpList_load_row (o := ⟨some 4, _, _, _, _, _⟩) rfl _ (.tmp 1) rfl (w.heap.size) rfl _ _ _ _ (E0.out.bx _ _ _ (.tail _ (.head _))) Tryd.underlying30 rfl IN.out ?_)
  generalize (w.alloc (.cells cs 30)).alloc (.cells #[.int .i64 0, .int .i64 0, .int .u32 0, .int .u32 0, .int .u32 0, .int .i64 0, .slice none 0 0, .int .u32 0, .int .i64 0, .slice none 0 0, .bool false, .int .u32 0, .int .u32 0, .int .i64 0, .int .i64 0, .int .i64 0, .slice none 0 0] 30) = w0 at *
  refine (rmayS (E0.out.st _ _ (.head _))).mono ?_
  rintro e w1 ⟨rfl, hb1⟩
  rw [HM.out]
  have E1 := Lib.hid (E0.out.below hb1)
  clear hb1 E0
  have X2 := Lib.hid (E1.out.bx _ _ _ (.tail _ (.head _)))
  have Y2 := Lib.hid (E1.out.bx _ _ _ (.head _))
  have B2 := Lib.hid E1.out.b
  clear E1
  have k10 := (cell_of_row _ _ 10 _ _ _ X2.out).trans S0.out.c10
  have k1 := (cell_of_row _ _ 1 _ _ _ X2.out).trans S0.out.c1
  clear ON SZ S0
  cases hon : L.on with
  | false =>
    rw [hon] at k10
    go_wp2_with ((with_reducible show wpList _ _ _ _ _ _); refine wpList_store_row rfl _ (.tmp 2) (.tmp 16) rfl (w.heap.size + 1) zState rfl rfl _ _ Y2.out (by kernel_rfl) (by rfl) (by kernel_rfl) ?_)
    have hrow : (w1.setRow (w.heap.size + 1) zState).heap[w.heap.size + 1]? = some (.cells zState 30 (0, 0)) := setRow_heap _ _ _ _ _ _ Y2.out
    refine bodyPost_ret (results_cell_tmp_row rfl _ _ (w.heap.size + 1) _ _ (0, 0) _ rfl hrow Tryd.underlying30 rfl (by kernel_rfl)) rfl ?_
    exact ⟨rfl, below_setRow2 B2.out (Nat.le_succ _) _⟩
  | true =>
    rw [hon] at k10
    have ht : ¬ L.trial = 0 := fun h => HO.out ⟨hon, h⟩
    have q0 : (L.trial != 0) = true := by simpa using ht
    clear hon HO ht
    go_wp2_with ((with_reducible show wpList _ _ _ _ _ _); refine wpList_store_row rfl _ (.tmp 2) (.tmp 16) rfl (w.heap.size + 1) zState rfl rfl _ _ Y2.out (by kernel_rfl) (by rfl) (by kernel_rfl) ?_)
    have hrow : (w1.setRow (w.heap.size + 1) zState).heap[w.heap.size + 1]? = some (.cells zState 30 (0, 0)) := setRow_heap _ _ _ _ _ _ Y2.out
    refine bodyPost_ret (results_cell_tmp_row rfl _ _ (w.heap.size + 1) _ _ (0, 0) _ rfl hrow Tryd.underlying30 rfl (by kernel_rfl)) rfl ?_
    exact ⟨rfl, below_setRow2 B2.out (Nat.le_succ _) _⟩
set_option maxRecDepth 100000 in
set_option maxHeartbeats 3200000 in
theorem ractivate_0 {w : World} {P : Nat → Prop} {cs : Array Value} {L : LSt} (h : IsSt w P cs L) (hm : L.may = true) (hon : L.on = true) (ht : L.trial = 0) (ha : L.act = 0) : Calls Tryd.prog 17 #[.agg cs] w (RetR L.activate (.int .i64 0) w) := by
  obtain ⟨hm2, hd2⟩ := act_may0 hm hon ha
  have HM2 := Lib.hid hm2
  have HD2 := Lib.hid hd2
  have HA := Lib.hid ha
  have HT := Lib.hid ht
  have HO := Lib.hid hon
  obtain ⟨UA0, Uc0, UA1, Uc1, UA, Uc, hcs, -, -, ur⟩ := id h
  have HC := Lib.hid hcs
  have UR := Lib.hid (ur.imp (P' := fun b => b < w.heap.size) fun b hb _ => hb)
  have SB := Lib.hid (h.imp (P' := fun b => b < w.heap.size) fun b hb _ => hb)
  clear hm2 hd2 ha ht hon hcs ur
  have e0 := (((Env.start w).addSt h).alloc cs 30).alloc #[.int .i64 0, .int .i64 0, .int .u32 0, .int .u32 0, .int .u32 0, .int .i64 0, .slice none 0 0, .int .u32 0, .int .i64 0, .slice none 0 0, .bool false, .int .u32 0, .int .u32 0, .int .i64 0, .int .i64 0, .int .i64 0, .slice none 0 0] 30
  rw [show (w.alloc (.cells cs 30)).heap.size = w.heap.size + 1 by simp] at e0
  have E0 := Lib.hid e0
  have HM := Lib.hid hm
  have IN := Lib.hid h.inf
  have S0 := Lib.hid h
  have ON := Lib.hid h.one
  have SZ := Lib.hid h.size
  clear e0 h hm
  go_enter Tryd.func17, Tryd.ntmps17
  go_wp2_with ((with_reducible show wpList _ _ _ _ _ _); refine wpList_load_row (o := ⟨some 4, _, _, _, _, _⟩) rfl _ (.tmp 1) rfl (w.heap.size) rfl _ _ _ _ (E0.out.bx _ _ _ (.tail _ (.head _))) Tryd.underlying30 rfl IN.out ?_)
  generalize (w.alloc (.cells cs 30)).alloc (.cells #[.int .i64 0, .int .i64 0, .int .u32 0, .int .u32 0, .int .u32 0, .int .i64 0, .slice none 0 0, .int .u32 0, .int .i64 0, .slice none 0 0, .bool false, .int .u32 0, .int .u32 0, .int .i64 0, .int .i64 0, .int .i64 0, .slice none 0 0] 30) = w0 at *
  refine (rmayS (E0.out.st _ _ (.head _))).mono ?_
  rintro e w1 ⟨rfl, hb1⟩
  rw [HM.out]
  have E1 := Lib.hid (E0.out.below hb1)
  clear hb1 E0
  have X2 := Lib.hid (E1.out.bx _ _ _ (.tail _ (.head _)))
  have Y2 := Lib.hid (E1.out.bx _ _ _ (.head _))
  have B2 := Lib.hid E1.out.b
  clear E1
  have k0 : w1.cell? ⟨w.heap.size, 0, none⟩ = some (.int .i64 0) := (cell_of_row _ _ 0 _ _ _ X2.out).trans (by rw [HC.out]; show some (Value.int .i64 L.act) = _; rw [HA.out])
  have k1 : w1.cell? ⟨w.heap.size, 1, none⟩ = some (.int .i64 0) := (cell_of_row _ _ 1 _ _ _ X2.out).trans (by rw [HC.out]; show some (Value.int .i64 L.trial) = _; rw [HT.out])
  have k10 : w1.cell? ⟨w.heap.size, 10, none⟩ = some (.bool true) := (cell_of_row _ _ 10 _ _ _ X2.out).trans (by rw [HC.out]; show some (Value.bool L.on) = _; rw [HO.out])
  have k12 : w1.cell? ⟨w.heap.size, 12, none⟩ = some (.int .u32 (L.m.v : Int)) := (cell_of_row _ _ 12 _ _ _ X2.out).trans (by rw [HC.out]; rfl)
  have k13 : w1.cell? ⟨w.heap.size, 13, none⟩ = some (.int .i64 L.m.l) := (cell_of_row _ _ 13 _ _ _ X2.out).trans (by rw [HC.out]; rfl)
  have k16 : w1.cell? ⟨w.heap.size, 16, none⟩ = some (.slice UA L.m.h.length Uc) := (cell_of_row _ _ 16 _ _ _ X2.out).trans (by rw [HC.out]; rfl)
  have k7 : w1.cell? ⟨w.heap.size, 7, none⟩ = some (.int .u32 (L.v1 : Int)) := (cell_of_row _ _ 7 _ _ _ X2.out).trans (by rw [HC.out]; rfl)
  have k8 : w1.cell? ⟨w.heap.size, 8, none⟩ = some (.int .i64 L.l1) := (cell_of_row _ _ 8 _ _ _ X2.out).trans (by rw [HC.out]; rfl)
  have k9 : w1.cell? ⟨w.heap.size, 9, none⟩ = some (.slice UA1 L.h1.length Uc1) := (cell_of_row _ _ 9 _ _ _ X2.out).trans (by rw [HC.out]; rfl)
  have f0 := frozen_of_row w1 w.heap.size 0 _ _ X2.out
  have f1 := frozen_of_row w1 w.heap.size 1 _ _ X2.out
  have f7 := frozen_of_row w1 w.heap.size 7 _ _ X2.out
  have f8 := frozen_of_row w1 w.heap.size 8 _ _ X2.out
  have f9 := frozen_of_row w1 w.heap.size 9 _ _ X2.out
  have X4 := Lib.hid (heap_setCell_same _ w.heap.size 1 _ _ (.int .i64 3) (heap_setCell_same _ w.heap.size 9 _ _ (.slice UA L.m.h.length Uc) (heap_setCell_same _ w.heap.size 8 _ _ (.int .i64 L.m.l) (heap_setCell_same _ w.heap.size 7 _ _ (.int .u32 (L.m.v : Int)) (heap_setCell_same _ w.heap.size 0 _ _ (.int .i64 1) X2.out)))))
  have Y4 : Hid ((((((w1.setCell ⟨w.heap.size, 0, none⟩ (.int .i64 1)).setCell ⟨w.heap.size, 7, none⟩ (.int .u32 (L.m.v : Int))).setCell ⟨w.heap.size, 8, none⟩ (.int .i64 L.m.l)).setCell ⟨w.heap.size, 9, none⟩ (.slice UA L.m.h.length Uc)).setCell ⟨w.heap.size, 1, none⟩ (.int .i64 3)).heap[w.heap.size + 1]? = some (.cells #[.int .i64 0, .int .i64 0, .int .u32 0, .int .u32 0, .int .u32 0, .int .i64 0, .slice none 0 0, .int .u32 0, .int .i64 0, .slice none 0 0, .bool false, .int .u32 0, .int .u32 0, .int .i64 0, .int .i64 0, .int .i64 0, .slice none 0 0] 30 (0, 0))) := Lib.hid ((heap_setCell_other _ _ _ _ (by show w.heap.size + 1 ≠ w.heap.size; omega)).trans ((heap_setCell_other _ _ _ _ (by show w.heap.size + 1 ≠ w.heap.size; omega)).trans ((heap_setCell_other _ _ _ _ (by show w.heap.size + 1 ≠ w.heap.size; omega)).trans ((heap_setCell_other _ _ _ _ (by show w.heap.size + 1 ≠ w.heap.size; omega)).trans ((heap_setCell_other _ _ _ _ (by show w.heap.size + 1 ≠ w.heap.size; omega)).trans Y2.out)))))
  have B4 : Hid (Below w.heap.size w (((((w1.setCell ⟨w.heap.size, 0, none⟩ (.int .i64 1)).setCell ⟨w.heap.size, 7, none⟩ (.int .u32 (L.m.v : Int))).setCell ⟨w.heap.size, 8, none⟩ (.int .i64 L.m.l)).setCell ⟨w.heap.size, 9, none⟩ (.slice UA L.m.h.length Uc)).setCell ⟨w.heap.size, 1, none⟩ (.int .i64 3))) := Lib.hid (((((B2.out.setCell (Nat.le_refl _) _).setCell (Nat.le_refl _) _).setCell (Nat.le_refl _) _).setCell (Nat.le_refl _) _).setCell (Nat.le_refl _) _)
  have S4 : Hid (IsSt w (fun b => b < w.heap.size) (((((cs.setIfInBounds 0 (.int .i64 1)).setIfInBounds 7 (.int .u32 (L.m.v : Int))).setIfInBounds 8 (.int .i64 L.m.l)).setIfInBounds 9 (.slice UA L.m.h.length Uc)).setIfInBounds 1 (.int .i64 3)) { L with act := 1, v1 := L.m.v, l1 := L.m.l, h1 := L.m.h, trial := 3 }) := Lib.hid (((SB.out.set0 1).setS1 (c := Uc) UR.out).set1 3)
  have I4 := Lib.hid S4.out.inf
  have O4 := Lib.hid S4.out.one
  have Z4 := Lib.hid S4.out.size
  generalize hc4 : (((((cs.setIfInBounds 0 (.int .i64 1)).setIfInBounds 7 (.int .u32 (L.m.v : Int))).setIfInBounds 8 (.int .i64 L.m.l)).setIfInBounds 9 (.slice UA L.m.h.length Uc)).setIfInBounds 1 (.int .i64 3)) = c4 at X4 S4 I4 O4 Z4
  have LT : Hid (w.heap.size + 1 < w1.heap.size) := Lib.hid (Array.getElem?_eq_some_iff.1 Y2.out).1
  go_upto_region 8 with fail
  clear k0 k1 k10 k12 k13 k16 k7 k8 k9 f0 f1 f7 f8 f9 X2 Y2 B2 HC UR SB
  generalize (((((w1.setCell ⟨w.heap.size, 0, none⟩ (.int .i64 1)).setCell ⟨w.heap.size, 7, none⟩ (.int .u32 (L.m.v : Int))).setCell ⟨w.heap.size, 8, none⟩ (.int .i64 L.m.l)).setCell ⟨w.heap.size, 9, none⟩ (.slice UA L.m.h.length Uc)).setCell ⟨w.heap.size, 1, none⟩ (.int .i64 3)) = w4 at *
  go_wp2_with ((with_reducible show wpList _ _ _ _ _ _); refine wpList_load_row (o := ⟨some 36, _, _, _, _, _⟩) rfl _ (.tmp 1) rfl (w.heap.size) rfl _ _ _ _ (X4.out) Tryd.underlying30 rfl I4.out ?_)
  refine (rdrop_yes (L := { L with act := 1, v1 := L.m.v, l1 := L.m.l, h1 := L.m.h, trial := 3 }) (P := fun b => b < w.heap.size) (S4.out.below B4.out) HM2.out).mono ?_
  rw [HD2.out]
  rintro e w5 ⟨c5, rfl, S5, hb5⟩
  have X5 := Lib.hid ((hb5.out.block _ (Array.getElem?_eq_some_iff.1 Y4.out).1).trans Y4.out)
  have B5 := Lib.hid (B4.out.trans (hb5.out.mono B4.out.size))
  have S6 := Lib.hid (S5.out.below hb5.out)
  have I5 := Lib.hid S5.out.inf
  have O5 := Lib.hid S5.out.one
  have Z5 := Lib.hid S5.out.size
  go_wp2_with ((with_reducible show wpList _ _ _ _ _ _); refine wpList_store_row rfl _ (.tmp 2) (.tmp 37) rfl (w.heap.size + 1) c5 rfl rfl _ _ X5.out I5.out Z5.out.symm O5.out ?_)
  have hrow : (w5.setRow (w.heap.size + 1) c5).heap[w.heap.size + 1]? = some (.cells c5 30 (0, 0)) := setRow_heap _ _ _ _ _ _ X5.out
  refine bodyPost_ret (results_cell_tmp_row rfl _ _ (w.heap.size + 1) _ _ (0, 0) _ rfl hrow Tryd.underlying30 rfl I5.out) rfl ?_
  exact ⟨c5, rfl, Lib.hid ((S6.out.keep (by simp) fun b hb _ => setRow_other _ _ _ _ (by omega)).imp fun _ _ _ => trivial), Lib.hid (below_setRow2 B5.out (Nat.le_succ _) _)⟩
set_option maxRecDepth 100000 in
set_option maxHeartbeats 3200000 in
theorem ractivate_1 {w : World} {P : Nat → Prop} {cs : Array Value} {L : LSt} (h : IsSt w P cs L) (hm : L.may = true) (hon : L.on = true) (ht : L.trial = 0) (ha : L.act = 1) : Calls Tryd.prog 17 #[.agg cs] w (RetR L.activate (.int .i64 0) w) := by
  obtain ⟨hm2, hd2⟩ := act_may1 hm hon ha
  have HM2 := Lib.hid hm2
  have HD2 := Lib.hid hd2
  have HA := Lib.hid ha
  have HT := Lib.hid ht
  have HO := Lib.hid hon
  obtain ⟨UA0, Uc0, UA1, Uc1, UA, Uc, hcs, -, -, ur⟩ := id h
  have HC := Lib.hid hcs
  have UR := Lib.hid (ur.imp (P' := fun b => b < w.heap.size) fun b hb _ => hb)
  have SB := Lib.hid (h.imp (P' := fun b => b < w.heap.size) fun b hb _ => hb)
  clear hm2 hd2 ha ht hon hcs ur
  have e0 := (((Env.start w).addSt h).alloc cs 30).alloc #[.int .i64 0, .int .i64 0, .int .u32 0, .int .u32 0, .int .u32 0, .int .i64 0, .slice none 0 0, .int .u32 0, .int .i64 0, .slice none 0 0, .bool false, .int .u32 0, .int .u32 0, .int .i64 0, .int .i64 0, .int .i64 0, .slice none 0 0] 30
  rw [show (w.alloc (.cells cs 30)).heap.size = w.heap.size + 1 by simp] at e0
  have E0 := Lib.hid e0
  have HM := Lib.hid hm
  have IN := Lib.hid h.inf
  have S0 := Lib.hid h
  have ON := Lib.hid h.one
  have SZ := Lib.hid h.size
  clear e0 h hm
  go_enter Tryd.func17, Tryd.ntmps17
  go_wp2_with ((with_reducible show wpList _ _ _ _ _ _); refine wpList_load_row (o := ⟨some 4, _, _, _, _, _⟩) rfl _ (.tmp 1) rfl (w.heap.size) rfl _ _ _ _ (E0.out.bx _ _ _ (.tail _ (.head _))) Tryd.underlying30 rfl IN.out ?_)
  generalize (w.alloc (.cells cs 30)).alloc (.cells #[.int .i64 0, .int .i64 0, .int .u32 0, .int .u32 0, .int .u32 0, .int .i64 0, .slice none 0 0, .int .u32 0, .int .i64 0, .slice none 0 0, .bool false, .int .u32 0, .int .u32 0, .int .i64 0, .int .i64 0, .int .i64 0, .slice none 0 0] 30) = w0 at *
  refine (rmayS (E0.out.st _ _ (.head _))).mono ?_
  rintro e w1 ⟨rfl, hb1⟩
  rw [HM.out]
  have E1 := Lib.hid (E0.out.below hb1)
  clear hb1 E0
  have X2 := Lib.hid (E1.out.bx _ _ _ (.tail _ (.head _)))
  have Y2 := Lib.hid (E1.out.bx _ _ _ (.head _))
  have B2 := Lib.hid E1.out.b
  clear E1
  have k0 : w1.cell? ⟨w.heap.size, 0, none⟩ = some (.int .i64 1) := (cell_of_row _ _ 0 _ _ _ X2.out).trans (by rw [HC.out]; show some (Value.int .i64 L.act) = _; rw [HA.out])
  have k1 : w1.cell? ⟨w.heap.size, 1, none⟩ = some (.int .i64 0) := (cell_of_row _ _ 1 _ _ _ X2.out).trans (by rw [HC.out]; show some (Value.int .i64 L.trial) = _; rw [HT.out])
  have k10 : w1.cell? ⟨w.heap.size, 10, none⟩ = some (.bool true) := (cell_of_row _ _ 10 _ _ _ X2.out).trans (by rw [HC.out]; show some (Value.bool L.on) = _; rw [HO.out])
  have k12 : w1.cell? ⟨w.heap.size, 12, none⟩ = some (.int .u32 (L.m.v : Int)) := (cell_of_row _ _ 12 _ _ _ X2.out).trans (by rw [HC.out]; rfl)
  have k13 : w1.cell? ⟨w.heap.size, 13, none⟩ = some (.int .i64 L.m.l) := (cell_of_row _ _ 13 _ _ _ X2.out).trans (by rw [HC.out]; rfl)
  have k16 : w1.cell? ⟨w.heap.size, 16, none⟩ = some (.slice UA L.m.h.length Uc) := (cell_of_row _ _ 16 _ _ _ X2.out).trans (by rw [HC.out]; rfl)
  have k4 : w1.cell? ⟨w.heap.size, 4, none⟩ = some (.int .u32 (L.v0 : Int)) := (cell_of_row _ _ 4 _ _ _ X2.out).trans (by rw [HC.out]; rfl)
  have k5 : w1.cell? ⟨w.heap.size, 5, none⟩ = some (.int .i64 L.l0) := (cell_of_row _ _ 5 _ _ _ X2.out).trans (by rw [HC.out]; rfl)
  have k6 : w1.cell? ⟨w.heap.size, 6, none⟩ = some (.slice UA0 L.h0.length Uc0) := (cell_of_row _ _ 6 _ _ _ X2.out).trans (by rw [HC.out]; rfl)
  have f0 := frozen_of_row w1 w.heap.size 0 _ _ X2.out
  have f1 := frozen_of_row w1 w.heap.size 1 _ _ X2.out
  have f4 := frozen_of_row w1 w.heap.size 4 _ _ X2.out
  have f5 := frozen_of_row w1 w.heap.size 5 _ _ X2.out
  have f6 := frozen_of_row w1 w.heap.size 6 _ _ X2.out
  have X4 := Lib.hid (heap_setCell_same _ w.heap.size 1 _ _ (.int .i64 3) (heap_setCell_same _ w.heap.size 6 _ _ (.slice UA L.m.h.length Uc) (heap_setCell_same _ w.heap.size 5 _ _ (.int .i64 L.m.l) (heap_setCell_same _ w.heap.size 4 _ _ (.int .u32 (L.m.v : Int)) (heap_setCell_same _ w.heap.size 0 _ _ (.int .i64 0) X2.out)))))
  have Y4 : Hid ((((((w1.setCell ⟨w.heap.size, 0, none⟩ (.int .i64 0)).setCell ⟨w.heap.size, 4, none⟩ (.int .u32 (L.m.v : Int))).setCell ⟨w.heap.size, 5, none⟩ (.int .i64 L.m.l)).setCell ⟨w.heap.size, 6, none⟩ (.slice UA L.m.h.length Uc)).setCell ⟨w.heap.size, 1, none⟩ (.int .i64 3)).heap[w.heap.size + 1]? = some (.cells #[.int .i64 0, .int .i64 0, .int .u32 0, .int .u32 0, .int .u32 0, .int .i64 0, .slice none 0 0, .int .u32 0, .int .i64 0, .slice none 0 0, .bool false, .int .u32 0, .int .u32 0, .int .i64 0, .int .i64 0, .int .i64 0, .slice none 0 0] 30 (0, 0))) := Lib.hid ((heap_setCell_other _ _ _ _ (by show w.heap.size + 1 ≠ w.heap.size; omega)).trans ((heap_setCell_other _ _ _ _ (by show w.heap.size + 1 ≠ w.heap.size; omega)).trans ((heap_setCell_other _ _ _ _ (by show w.heap.size + 1 ≠ w.heap.size; omega)).trans ((heap_setCell_other _ _ _ _ (by show w.heap.size + 1 ≠ w.heap.size; omega)).trans ((heap_setCell_other _ _ _ _ (by show w.heap.size + 1 ≠ w.heap.size; omega)).trans Y2.out)))))
  have B4 : Hid (Below w.heap.size w (((((w1.setCell ⟨w.heap.size, 0, none⟩ (.int .i64 0)).setCell ⟨w.heap.size, 4, none⟩ (.int .u32 (L.m.v : Int))).setCell ⟨w.heap.size, 5, none⟩ (.int .i64 L.m.l)).setCell ⟨w.heap.size, 6, none⟩ (.slice UA L.m.h.length Uc)).setCell ⟨w.heap.size, 1, none⟩ (.int .i64 3))) := Lib.hid (((((B2.out.setCell (Nat.le_refl _) _).setCell (Nat.le_refl _) _).setCell (Nat.le_refl _) _).setCell (Nat.le_refl _) _).setCell (Nat.le_refl _) _)
  have S4 : Hid (IsSt w (fun b => b < w.heap.size) (((((cs.setIfInBounds 0 (.int .i64 0)).setIfInBounds 4 (.int .u32 (L.m.v : Int))).setIfInBounds 5 (.int .i64 L.m.l)).setIfInBounds 6 (.slice UA L.m.h.length Uc)).setIfInBounds 1 (.int .i64 3)) { L with act := 0, v0 := L.m.v, l0 := L.m.l, h0 := L.m.h, trial := 3 }) := Lib.hid (((SB.out.set0 0).setS0 (c := Uc) UR.out).set1 3)
  have I4 := Lib.hid S4.out.inf
  have O4 := Lib.hid S4.out.one
  have Z4 := Lib.hid S4.out.size
  generalize hc4 : (((((cs.setIfInBounds 0 (.int .i64 0)).setIfInBounds 4 (.int .u32 (L.m.v : Int))).setIfInBounds 5 (.int .i64 L.m.l)).setIfInBounds 6 (.slice UA L.m.h.length Uc)).setIfInBounds 1 (.int .i64 3)) = c4 at X4 S4 I4 O4 Z4
  have LT : Hid (w.heap.size + 1 < w1.heap.size) := Lib.hid (Array.getElem?_eq_some_iff.1 Y2.out).1
  go_upto_region 8 with fail
  clear k0 k1 k10 k12 k13 k16 k4 k5 k6 f0 f1 f4 f5 f6 X2 Y2 B2 HC UR SB
  generalize (((((w1.setCell ⟨w.heap.size, 0, none⟩ (.int .i64 0)).setCell ⟨w.heap.size, 4, none⟩ (.int .u32 (L.m.v : Int))).setCell ⟨w.heap.size, 5, none⟩ (.int .i64 L.m.l)).setCell ⟨w.heap.size, 6, none⟩ (.slice UA L.m.h.length Uc)).setCell ⟨w.heap.size, 1, none⟩ (.int .i64 3)) = w4 at *
  go_wp2_with ((with_reducible show wpList _ _ _ _ _ _); refine wpList_load_row (o := ⟨some 36, _, _, _, _, _⟩) rfl _ (.tmp 1) rfl (w.heap.size) rfl _ _ _ _ (X4.out) Tryd.underlying30 rfl I4.out ?_)
  refine (rdrop_yes (L := { L with act := 0, v0 := L.m.v, l0 := L.m.l, h0 := L.m.h, trial := 3 }) (P := fun b => b < w.heap.size) (S4.out.below B4.out) HM2.out).mono ?_
  rw [HD2.out]
  rintro e w5 ⟨c5, rfl, S5, hb5⟩
  have X5 := Lib.hid ((hb5.out.block _ (Array.getElem?_eq_some_iff.1 Y4.out).1).trans Y4.out)
  have B5 := Lib.hid (B4.out.trans (hb5.out.mono B4.out.size))
  have S6 := Lib.hid (S5.out.below hb5.out)
  have I5 := Lib.hid S5.out.inf
  have O5 := Lib.hid S5.out.one
  have Z5 := Lib.hid S5.out.size
  go_wp2_with ((with_reducible show wpList _ _ _ _ _ _); refine wpList_store_row rfl _ (.tmp 2) (.tmp 37) rfl (w.heap.size + 1) c5 rfl rfl _ _ X5.out I5.out Z5.out.symm O5.out ?_)
  have hrow : (w5.setRow (w.heap.size + 1) c5).heap[w.heap.size + 1]? = some (.cells c5 30 (0, 0)) := setRow_heap _ _ _ _ _ _ X5.out
  refine bodyPost_ret (results_cell_tmp_row rfl _ _ (w.heap.size + 1) _ _ (0, 0) _ rfl hrow Tryd.underlying30 rfl I5.out) rfl ?_
  exact ⟨c5, rfl, Lib.hid ((S6.out.keep (by simp) fun b hb _ => setRow_other _ _ _ _ (by omega)).imp fun _ _ _ => trivial), Lib.hid (below_setRow2 B5.out (Nat.le_succ _) _)⟩
end Go.Proofs.YtoclckfpbmglfaaDoor
