/- The reference's answers to what may not be: by contract, states as data. -/
import Derived.Test.YtoclckfpbmglfaaDoorRBootHQ
namespace Go.Proofs.YtoclckfpbmglfaaDoor
open Go.RowKit
set_option maxRecDepth 100000 in
set_option maxHeartbeats 3200000 in
theorem rdrop_no {w : World} {P : Nat → Prop} {cs : Array Value} {L : LSt} (h : IsSt w P cs L) (hm : L.may = false) : Calls Tryd.prog 19 #[.agg cs] w (fun e w' => e = .returned (.agg zState) ∧ Below w.heap.size w w') := by
  have e0 := (((Env.start w).addSt h).alloc cs 30).alloc #[.int .i64 0, .int .i64 0, .int .u32 0, .int .u32 0, .int .u32 0, .int .i64 0, .slice none 0 0, .int .u32 0, .int .i64 0, .slice none 0 0, .bool false, .int .u32 0, .int .u32 0, .int .i64 0, .int .i64 0, .int .i64 0, .slice none 0 0] 30
  rw [show (w.alloc (.cells cs 30)).heap.size = w.heap.size + 1 by simp] at e0
  have E0 := Lib.hid e0
  have HM := Lib.hid hm
  have IN := Lib.hid h.inf
  have S0 := Lib.hid h
  have ON := Lib.hid h.one
  have SZ := Lib.hid h.size
  clear e0 h hm
  go_enter Tryd.func19, Tryd.ntmps19
  go_wp2_with ((with_reducible show wpList _ _ _ _ _ _); refine wpList_load_row (o := ⟨some 3, _, _, _, _, _⟩) rfl _ (.tmp 1) rfl (w.heap.size) rfl _ _ _ _ (E0.out.bx _ _ _ (.tail _ (.head _))) Tryd.underlying30 rfl IN.out ?_)
  generalize (w.alloc (.cells cs 30)).alloc (.cells #[.int .i64 0, .int .i64 0, .int .u32 0, .int .u32 0, .int .u32 0, .int .i64 0, .slice none 0 0, .int .u32 0, .int .i64 0, .slice none 0 0, .bool false, .int .u32 0, .int .u32 0, .int .i64 0, .int .i64 0, .int .i64 0, .slice none 0 0] 30) = w0 at *
  refine (rmayS (E0.out.st _ _ (.head _))).mono ?_
  rintro e w1 ⟨rfl, hb1⟩
  rw [HM.out]
  have E1 := Lib.hid (E0.out.below hb1)
  clear hb1 E0
  clear ON SZ S0
  go_wp2_with ((with_reducible show wpList _ _ _ _ _ _); refine wpList_store_row rfl _ (.tmp 2) (.tmp 6) rfl (w.heap.size + 1) zState rfl rfl _ _ (E1.out.bx _ _ _ (.head _)) (by kernel_rfl) (by rfl) (by kernel_rfl) ?_)
  have hrow : (w1.setRow (w.heap.size + 1) zState).heap[w.heap.size + 1]? = some (.cells zState 30 (0, 0)) := setRow_heap _ _ _ _ _ _ (E1.out.bx _ _ _ (.head _))
  refine bodyPost_ret (results_cell_row rfl _ _ (w.heap.size + 1) _ _ (0, 0) _ rfl hrow Tryd.underlying30 rfl (by kernel_rfl)) rfl ?_
  exact ⟨rfl, below_setRow2 E1.out.b (Nat.le_succ _) _⟩
set_option maxRecDepth 100000 in
set_option maxHeartbeats 3200000 in
theorem rstart_no {w : World} {P : Nat → Prop} {cs : Array Value} {L : LSt} (h : IsSt w P cs L) (hm : L.may = false) : Calls Tryd.prog 14 #[.agg cs] w (fun e w' => e = .returned (.tuple #[.agg zState, .bool false]) ∧ Below w.heap.size w w') := by
  have e0 := (((Env.start w).addSt h).alloc cs 30).alloc #[.int .i64 0, .int .i64 0, .int .u32 0, .int .u32 0, .int .u32 0, .int .i64 0, .slice none 0 0, .int .u32 0, .int .i64 0, .slice none 0 0, .bool false, .int .u32 0, .int .u32 0, .int .i64 0, .int .i64 0, .int .i64 0, .slice none 0 0] 30
  rw [show (w.alloc (.cells cs 30)).heap.size = w.heap.size + 1 by simp] at e0
  have E0 := Lib.hid e0
  have HM := Lib.hid hm
  have IN := Lib.hid h.inf
  have S0 := Lib.hid h
  have ON := Lib.hid h.one
  have SZ := Lib.hid h.size
  clear e0 h hm
  go_enter Tryd.func14, Tryd.ntmps14
  go_wp2_with ((with_reducible show wpList _ _ _ _ _ _); refine wpList_load_row (o := ⟨some 4, _, _, _, _, _⟩) rfl _ (.tmp 1) rfl (w.heap.size) rfl _ _ _ _ (E0.out.bx _ _ _ (.tail _ (.head _))) Tryd.underlying30 rfl IN.out ?_)
  generalize (w.alloc (.cells cs 30)).alloc (.cells #[.int .i64 0, .int .i64 0, .int .u32 0, .int .u32 0, .int .u32 0, .int .i64 0, .slice none 0 0, .int .u32 0, .int .i64 0, .slice none 0 0, .bool false, .int .u32 0, .int .u32 0, .int .i64 0, .int .i64 0, .int .i64 0, .slice none 0 0] 30) = w0 at *
  refine (rmayS (E0.out.st _ _ (.head _))).mono ?_
  rintro e w1 ⟨rfl, hb1⟩
  rw [HM.out]
  have E1 := Lib.hid (E0.out.below hb1)
  clear hb1 E0
  clear ON SZ S0
  go_wp2_with ((with_reducible show wpList _ _ _ _ _ _); refine wpList_store_row rfl _ (.tmp 2) (.tmp 7) rfl (w.heap.size + 1) zState rfl rfl _ _ (E1.out.bx _ _ _ (.head _)) (by kernel_rfl) (by rfl) (by kernel_rfl) ?_)
  have hrow : (w1.setRow (w.heap.size + 1) zState).heap[w.heap.size + 1]? = some (.cells zState 30 (0, 0)) := setRow_heap _ _ _ _ _ _ (E1.out.bx _ _ _ (.head _))
  refine bodyPost_ret (results_cell_tmp_row rfl _ _ (w.heap.size + 1) _ _ (0, 0) _ rfl hrow Tryd.underlying30 rfl (by kernel_rfl)) rfl ?_
  exact ⟨rfl, below_setRow2 E1.out.b (Nat.le_succ _) _⟩
set_option maxRecDepth 100000 in
set_option maxHeartbeats 3200000 in
theorem rconfirm_no {w : World} {P : Nat → Prop} {cs : Array Value} {L : LSt} (h : IsSt w P cs L) (hm : L.may = false) : Calls Tryd.prog 16 #[.agg cs] w (fun e w' => e = .returned (.tuple #[.agg zState, .bool false]) ∧ Below w.heap.size w w') := by
  have e0 := (((Env.start w).addSt h).alloc cs 30).alloc #[.int .i64 0, .int .i64 0, .int .u32 0, .int .u32 0, .int .u32 0, .int .i64 0, .slice none 0 0, .int .u32 0, .int .i64 0, .slice none 0 0, .bool false, .int .u32 0, .int .u32 0, .int .i64 0, .int .i64 0, .int .i64 0, .slice none 0 0] 30
  rw [show (w.alloc (.cells cs 30)).heap.size = w.heap.size + 1 by simp] at e0
  have E0 := Lib.hid e0
  have HM := Lib.hid hm
  have IN := Lib.hid h.inf
  have S0 := Lib.hid h
  have ON := Lib.hid h.one
  have SZ := Lib.hid h.size
  clear e0 h hm
  go_enter Tryd.func16, Tryd.ntmps16
  go_wp2_with ((with_reducible show wpList _ _ _ _ _ _); refine wpList_load_row (o := ⟨some 5, _, _, _, _, _⟩) rfl _ (.tmp 1) rfl (w.heap.size) rfl _ _ _ _ (E0.out.bx _ _ _ (.tail _ (.head _))) Tryd.underlying30 rfl IN.out ?_)
  generalize (w.alloc (.cells cs 30)).alloc (.cells #[.int .i64 0, .int .i64 0, .int .u32 0, .int .u32 0, .int .u32 0, .int .i64 0, .slice none 0 0, .int .u32 0, .int .i64 0, .slice none 0 0, .bool false, .int .u32 0, .int .u32 0, .int .i64 0, .int .i64 0, .int .i64 0, .slice none 0 0] 30) = w0 at *
  refine (rmayS (E0.out.st _ _ (.head _))).mono ?_
  rintro e w1 ⟨rfl, hb1⟩
  rw [HM.out]
  have E1 := Lib.hid (E0.out.below hb1)
  clear hb1 E0
  clear ON SZ S0
  go_wp2_with ((with_reducible show wpList _ _ _ _ _ _); refine wpList_store_row rfl _ (.tmp 2) (.tmp 8) rfl (w.heap.size + 1) zState rfl rfl _ _ (E1.out.bx _ _ _ (.head _)) (by kernel_rfl) (by rfl) (by kernel_rfl) ?_)
  have hrow : (w1.setRow (w.heap.size + 1) zState).heap[w.heap.size + 1]? = some (.cells zState 30 (0, 0)) := setRow_heap _ _ _ _ _ _ (E1.out.bx _ _ _ (.head _))
  refine bodyPost_ret (results_cell_tmp_row rfl _ _ (w.heap.size + 1) _ _ (0, 0) _ rfl hrow Tryd.underlying30 rfl (by kernel_rfl)) rfl ?_
  exact ⟨rfl, below_setRow2 E1.out.b (Nat.le_succ _) _⟩
set_option maxRecDepth 100000 in
set_option maxHeartbeats 3200000 in
theorem ractivate_no {w : World} {P : Nat → Prop} {cs : Array Value} {L : LSt} (h : IsSt w P cs L) (hm : L.may = false) : Calls Tryd.prog 17 #[.agg cs] w (fun e w' => e = .returned (.tuple #[.agg zState, .int .i64 1]) ∧ Below w.heap.size w w') := by
  have e0 := (((Env.start w).addSt h).alloc cs 30).alloc #[.int .i64 0, .int .i64 0, .int .u32 0, .int .u32 0, .int .u32 0, .int .i64 0, .slice none 0 0, .int .u32 0, .int .i64 0, .slice none 0 0, .bool false, .int .u32 0, .int .u32 0, .int .i64 0, .int .i64 0, .int .i64 0, .slice none 0 0] 30
  rw [show (w.alloc (.cells cs 30)).heap.size = w.heap.size + 1 by simp] at e0
  have E0 := Lib.hid e0
  have HM := Lib.hid hm
  have IN := Lib.hid h.inf
  have S0 := Lib.hid h
  have ON := Lib.hid h.one
  have SZ := Lib.hid h.size
  clear e0 h hm
  go_enter Tryd.func17, Tryd.ntmps17
  go_wp2_with ((with_reducible show wpList _ _ _ _ _ _); refine wpList_load_row (o := ⟨some 4, _, _, _, _, _⟩) rfl _ (.tmp 1) rfl (w.heap.size) rfl _ _ _ _ (E0.out.bx _ _ _ (.tail _ (.head _))) Tryd.underlying30 rfl IN.out ?_)
  generalize (w.alloc (.cells cs 30)).alloc (.cells #[.int .i64 0, .int .i64 0, .int .u32 0, .int .u32 0, .int .u32 0, .int .i64 0, .slice none 0 0, .int .u32 0, .int .i64 0, .slice none 0 0, .bool false, .int .u32 0, .int .u32 0, .int .i64 0, .int .i64 0, .int .i64 0, .slice none 0 0] 30) = w0 at *
  refine (rmayS (E0.out.st _ _ (.head _))).mono ?_
  rintro e w1 ⟨rfl, hb1⟩
  rw [HM.out]
  have E1 := Lib.hid (E0.out.below hb1)
  clear hb1 E0
  clear ON SZ S0
  go_wp2_with ((with_reducible show wpList _ _ _ _ _ _); refine wpList_store_row rfl _ (.tmp 2) (.tmp 7) rfl (w.heap.size + 1) zState rfl rfl _ _ (E1.out.bx _ _ _ (.head _)) (by kernel_rfl) (by rfl) (by kernel_rfl) ?_)
  have hrow : (w1.setRow (w.heap.size + 1) zState).heap[w.heap.size + 1]? = some (.cells zState 30 (0, 0)) := setRow_heap _ _ _ _ _ _ (E1.out.bx _ _ _ (.head _))
  refine bodyPost_ret (results_cell_tmp_row rfl _ _ (w.heap.size + 1) _ _ (0, 0) _ rfl hrow Tryd.underlying30 rfl (by kernel_rfl)) rfl ?_
  exact ⟨rfl, below_setRow2 E1.out.b (Nat.le_succ _) _⟩
end Go.Proofs.YtoclckfpbmglfaaDoor
