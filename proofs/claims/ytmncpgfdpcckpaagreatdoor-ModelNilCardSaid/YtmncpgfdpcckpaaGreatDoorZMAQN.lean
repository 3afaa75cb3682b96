/- session.Admit: what its contracts share. -/
import Derived.Test.YtmncpgfdpcckpaaGreatDoorZSQN
set_option maxRecDepth 100000
namespace Go.Proofs.YtmncpgfdpcckpaaGreatDoor
open Go.RowKit
theorem alloc3 (w : World) (a b c : Obj) : (((w.alloc a).alloc b).alloc c).heap[w.heap.size]? = some a ∧ (((w.alloc a).alloc b).alloc c).heap[w.heap.size + 1]? = some b ∧ (((w.alloc a).alloc b).alloc c).heap[w.heap.size + 2]? = some c := by
 refine ⟨?_, ?_, ?_⟩
 ·rw [heap_alloc_old _ c (by simp; omega)]; exact heap_alloc2_old w a b
 ·rw [heap_alloc_old _ c (by simp)]; exact heap_alloc2_new w a b
 ·have := heap_alloc_new ((w.alloc a).alloc b) c; simpa using this
def AdmitNo (r : Int) (w : World) (e : Ending) (w' : World) : Prop := e = .returned (.tuple #[.agg zState, .int .i64 r]) ∧ Below w.heap.size w w'
theorem bx6n {w : World} {g : Nat} {t : TypeId} {a0 a1 a2 a3 a4 a5 a6 a7 a8 a9 a10 a11 a12 a13 a14 a15 a16 : Value} (h : w.heap[g]? = some (.cells #[a0, a1, a2, a3, a4, a5, a6, a7, a8, a9, a10, a11, a12, a13, a14, a15, a16] t (0, 0))) :
  w.cell? ⟨g, 11, none⟩ = some a11 ∧ w.cell? ⟨g, 12, none⟩ = some a12 ∧ w.cell? ⟨g, 13, none⟩ = some a13 ∧ w.cell? ⟨g, 14, none⟩ = some a14 ∧ w.cell? ⟨g, 15, none⟩ = some a15 ∧ w.cell? ⟨g, 16, none⟩ = some a16 := by
 refine ⟨?_, ?_, ?_, ?_, ?_, ?_⟩ <;> rw [cell_of_row w g _ _ t (0, 0) h] <;> rfl
theorem bxg {w : World} {g : Nat} {t : TypeId} {a0 a1 a2 a3 a4 a5 a6 a7 a8 a9 a10 a11 a12 a13 a14 a15 a16 : Value} (h : w.heap[g]? = some (.cells #[a0, a1, a2, a3, a4, a5, a6, a7, a8, a9, a10, a11, a12, a13, a14, a15, a16] t (0, 0))) : w.cell? ⟨g, 3, none⟩ = some a3 := by
 rw [cell_of_row w g _ _ t (0, 0) h]; rfl
end Go.Proofs.YtmncpgfdpcckpaaGreatDoor
namespace Go.Proofs.YtmncpgfdpcckpaaGreatDoor
open Go.RowKit
set_option maxHeartbeats 1600000 in
theorem drop_no (act trial : Int) (flo gen v0 : Nat) (l0 : Int) (A0 : Option Addr) (n0 c0 : Nat) (v1 : Nat) (l1 : Int) (A1 : Option Addr) (n1 c1 : Nat) (on : Bool) (s v : Nat) (l z p : Int) (A : Option Addr) (n c B : Nat) (h0 h1 h : List UInt8) (w : World) (hm : mayB2 act trial v0 l0 h0 v1 l1 h1 on s v l z p h = false) (hl0 : Row w B A0 n0 (bv h0)) (hl1 : Row w B A1 n1 (bv h1)) (hl : Row w B A n (bv h)) (hB : B ≤ w.heap.size) (_hn0 : n0 ≤ 1000000000) (_hn1 : n1 ≤ 1000000000) (_hn : n ≤ 1000000000) :
  Calls Tryz.prog 65 #[.agg #[.int .i64 act, .int .i64 trial, .int .u32 (flo : Int), .int .u32 (gen : Int), .int .u32 (v0 : Int), .int .i64 l0, .slice A0 n0 c0, .int .u32 (v1 : Int), .int .i64 l1, .slice A1 n1 c1, .bool on, .int .u32 (s : Int), .int .u32 (v : Int), .int .i64 l, .int .i64 z, .int .i64 p, .slice A n c]] w fun e w' => e = .returned (.agg zState) ∧ Below w.heap.size w w' := by
 have HM := Lib.hid hm
 have HX := Lib.hid (heap_alloc2_old w (.cells #[.int .i64 act, .int .i64 trial, .int .u32 (flo : Int), .int .u32 (gen : Int), .int .u32 (v0 : Int), .int .i64 l0, .slice A0 n0 c0, .int .u32 (v1 : Int), .int .i64 l1, .slice A1 n1 c1, .bool on, .int .u32 (s : Int), .int .u32 (v : Int), .int .i64 l, .int .i64 z, .int .i64 p, .slice A n c] 39) (.cells zState 39))
 have HY := Lib.hid (heap_alloc2_new w (.cells #[.int .i64 act, .int .i64 trial, .int .u32 (flo : Int), .int .u32 (gen : Int), .int .u32 (v0 : Int), .int .i64 l0, .slice A0 n0 c0, .int .u32 (v1 : Int), .int .i64 l1, .slice A1 n1 c1, .bool on, .int .u32 (s : Int), .int .u32 (v : Int), .int .i64 l, .int .i64 z, .int .i64 p, .slice A n c] 39) (.cells zState 39))
 have hb : Below w.heap.size w ((w.alloc (.cells #[.int .i64 act, .int .i64 trial, .int .u32 (flo : Int), .int .u32 (gen : Int), .int .u32 (v0 : Int), .int .i64 l0, .slice A0 n0 c0, .int .u32 (v1 : Int), .int .i64 l1, .slice A1 n1 c1, .bool on, .int .u32 (s : Int), .int .u32 (v : Int), .int .i64 l, .int .i64 z, .int .i64 p, .slice A n c] 39)).alloc (.cells zState 39)) := ((Below.refl _ _).alloc (Nat.le_refl _) _).alloc (by simp) _
 have HB0 := Lib.hid hb
 have CM := Lib.hid (may_any act trial flo gen v0 l0 A0 n0 c0 v1 l1 A1 n1 c1 on s v l z p A n c B h0 h1 h _ (hl0.below (hb.mono hB)) (hl1.below (hb.mono hB)) (hl.below (hb.mono hB)) (Nat.le_trans hB hb.size))
 clear hl0 hl1 hl hB hm hb
 go_enter Tryz.func65, Tryz.ntmps65
 go_wp2_with fail
 refine CM.out.mono ?_
 rintro e w1 ⟨rfl, hb1⟩
 rw [HM.out]
 have HB1 : Hid (Below w.heap.size w w1) := HB0.out.trans (hb1.mono HB0.out.size)
 have HY1 := Lib.hid ((hb1.block (w.heap.size + 1) (by simp)).trans HY.out)
 clear hb1 HX HY CM HB0 HM
 go_wp2_with ((with_reducible show wpList _ _ _ _ _ _); refine wpList_store_row rfl _ (.tmp 2) (.tmp 6) rfl (w.heap.size + 1) zState rfl rfl _ _ HY1.out (by kernel_rfl) (by rfl) (by kernel_rfl) ?_)
 have hrow : (w1.setRow (w.heap.size + 1) zState).heap[w.heap.size + 1]? = some (.cells zState 39 (0, 0)) := setRow_heap _ _ _ _ _ _ HY1.out
 refine bodyPost_ret (results_cell_row rfl _ _ (w.heap.size + 1) _ _ (0, 0) _ rfl hrow Tryz.underlying39 rfl (by kernel_rfl)) rfl ?_
 exact ⟨rfl, below_setRow2 HB1.out (Nat.le_succ _) _⟩
theorem set7 {w : World} {g : Nat} {t : TypeId} {a0 a1 a2 a3 a4 a5 a6 a7 a8 a9 a10 a11 a12 a13 a14 a15 a16 : Value} (h : w.heap[g]? = some (.cells #[a0, a1, a2, a3, a4, a5, a6, a7, a8, a9, a10, a11, a12, a13, a14, a15, a16] t (0, 0))) (b0 b1 b2 b3 b4 b5 b6 : Value) :
  (((((((w.setCell ⟨g, 10, none⟩ b0).setCell ⟨g, 11, none⟩ b1).setCell ⟨g, 12, none⟩ b2).setCell ⟨g, 13, none⟩ b3).setCell ⟨g, 14, none⟩ b4).setCell ⟨g, 15, none⟩ b5).setCell ⟨g, 16, none⟩ b6).heap[g]? = some (.cells #[a0, a1, a2, a3, a4, a5, a6, a7, a8, a9, b0, b1, b2, b3, b4, b5, b6] t (0, 0)) := by
 have k0 : (w.setCell ⟨g, 10, none⟩ b0).heap[g]? = some (.cells #[a0, a1, a2, a3, a4, a5, a6, a7, a8, a9, b0, a11, a12, a13, a14, a15, a16] t (0, 0)) := heap_setCell_same _ g 10 _ t b0 h
 have k1 : ((w.setCell ⟨g, 10, none⟩ b0).setCell ⟨g, 11, none⟩ b1).heap[g]? = some (.cells #[a0, a1, a2, a3, a4, a5, a6, a7, a8, a9, b0, b1, a12, a13, a14, a15, a16] t (0, 0)) := heap_setCell_same _ g 11 _ t b1 k0
 have k2 : (((w.setCell ⟨g, 10, none⟩ b0).setCell ⟨g, 11, none⟩ b1).setCell ⟨g, 12, none⟩ b2).heap[g]? = some (.cells #[a0, a1, a2, a3, a4, a5, a6, a7, a8, a9, b0, b1, b2, a13, a14, a15, a16] t (0, 0)) := heap_setCell_same _ g 12 _ t b2 k1
 have k3 : ((((w.setCell ⟨g, 10, none⟩ b0).setCell ⟨g, 11, none⟩ b1).setCell ⟨g, 12, none⟩ b2).setCell ⟨g, 13, none⟩ b3).heap[g]? = some (.cells #[a0, a1, a2, a3, a4, a5, a6, a7, a8, a9, b0, b1, b2, b3, a14, a15, a16] t (0, 0)) := heap_setCell_same _ g 13 _ t b3 k2
 have k4 : (((((w.setCell ⟨g, 10, none⟩ b0).setCell ⟨g, 11, none⟩ b1).setCell ⟨g, 12, none⟩ b2).setCell ⟨g, 13, none⟩ b3).setCell ⟨g, 14, none⟩ b4).heap[g]? = some (.cells #[a0, a1, a2, a3, a4, a5, a6, a7, a8, a9, b0, b1, b2, b3, b4, a15, a16] t (0, 0)) := heap_setCell_same _ g 14 _ t b4 k3
 have k5 : ((((((w.setCell ⟨g, 10, none⟩ b0).setCell ⟨g, 11, none⟩ b1).setCell ⟨g, 12, none⟩ b2).setCell ⟨g, 13, none⟩ b3).setCell ⟨g, 14, none⟩ b4).setCell ⟨g, 15, none⟩ b5).heap[g]? = some (.cells #[a0, a1, a2, a3, a4, a5, a6, a7, a8, a9, b0, b1, b2, b3, b4, b5, a16] t (0, 0)) := heap_setCell_same _ g 15 _ t b5 k4
 exact heap_setCell_same _ g 16 _ t b6 k5
set_option maxHeartbeats 1600000 in
theorem drop_yes (act trial : Int) (flo gen v0 : Nat) (l0 : Int) (A0 : Option Addr) (n0 c0 : Nat) (v1 : Nat) (l1 : Int) (A1 : Option Addr) (n1 c1 : Nat) (on : Bool) (s v : Nat) (l z p : Int) (A : Option Addr) (n c B : Nat) (h0 h1 h : List UInt8) (w : World) (hm : mayB2 act trial v0 l0 h0 v1 l1 h1 on s v l z p h = true) (hl0 : Row w B A0 n0 (bv h0)) (hl1 : Row w B A1 n1 (bv h1)) (hl : Row w B A n (bv h)) (hB : B ≤ w.heap.size) (hn0 : n0 ≤ 1000000000) (hn1 : n1 ≤ 1000000000) (_hn : n ≤ 1000000000) :
  Calls Tryz.prog 65 #[.agg #[.int .i64 act, .int .i64 trial, .int .u32 (flo : Int), .int .u32 (gen : Int), .int .u32 (v0 : Int), .int .i64 l0, .slice A0 n0 c0, .int .u32 (v1 : Int), .int .i64 l1, .slice A1 n1 c1, .bool on, .int .u32 (s : Int), .int .u32 (v : Int), .int .i64 l, .int .i64 z, .int .i64 p, .slice A n c]] w (StRet act trial flo gen v0 l0 n0 v1 l1 n1 false 0 0 0 0 0 0 h0 h1 [] w) := by
 have HM := Lib.hid hm
 have HX := Lib.hid (heap_alloc2_old w (.cells #[.int .i64 act, .int .i64 trial, .int .u32 (flo : Int), .int .u32 (gen : Int), .int .u32 (v0 : Int), .int .i64 l0, .slice A0 n0 c0, .int .u32 (v1 : Int), .int .i64 l1, .slice A1 n1 c1, .bool on, .int .u32 (s : Int), .int .u32 (v : Int), .int .i64 l, .int .i64 z, .int .i64 p, .slice A n c] 39) (.cells zState 39))
 have HY := Lib.hid (heap_alloc2_new w (.cells #[.int .i64 act, .int .i64 trial, .int .u32 (flo : Int), .int .u32 (gen : Int), .int .u32 (v0 : Int), .int .i64 l0, .slice A0 n0 c0, .int .u32 (v1 : Int), .int .i64 l1, .slice A1 n1 c1, .bool on, .int .u32 (s : Int), .int .u32 (v : Int), .int .i64 l, .int .i64 z, .int .i64 p, .slice A n c] 39) (.cells zState 39))
 have hb : Below w.heap.size w ((w.alloc (.cells #[.int .i64 act, .int .i64 trial, .int .u32 (flo : Int), .int .u32 (gen : Int), .int .u32 (v0 : Int), .int .i64 l0, .slice A0 n0 c0, .int .u32 (v1 : Int), .int .i64 l1, .slice A1 n1 c1, .bool on, .int .u32 (s : Int), .int .u32 (v : Int), .int .i64 l, .int .i64 z, .int .i64 p, .slice A n c] 39)).alloc (.cells zState 39)) := ((Below.refl _ _).alloc (Nat.le_refl _) _).alloc (by simp) _
 have HB0 := Lib.hid hb
 have CM := Lib.hid (may_any act trial flo gen v0 l0 A0 n0 c0 v1 l1 A1 n1 c1 on s v l z p A n c B h0 h1 h _ (hl0.below (hb.mono hB)) (hl1.below (hb.mono hB)) (hl.below (hb.mono hB)) (Nat.le_trans hB hb.size))
 have HL0 := Lib.hid hl0
 have HL1 := Lib.hid hl1
 have HBB := Lib.hid hB
 clear hl0 hl1 hl hB hm hb
 go_enter Tryz.func65, Tryz.ntmps65
 go_wp2_with fail
 refine CM.out.mono ?_
 rintro e w1 ⟨rfl, hb1⟩
 rw [HM.out]
 have HB1 : Hid (Below w.heap.size w w1) := HB0.out.trans (hb1.mono HB0.out.size)
 have HX1 := Lib.hid ((hb1.block w.heap.size (by simp; omega)).trans HX.out)
 have HY1 := Lib.hid ((hb1.block (w.heap.size + 1) (by simp)).trans HY.out)
 have HX2 := Lib.hid (set7 HX1.out (.bool false) (.int .u32 0) (.int .u32 0) (.int .i64 0) (.int .i64 0) (.int .i64 0) (.slice none 0 0))
 have HB2 : Hid (Below w.heap.size w (((((((w1.setCell ⟨w.heap.size, 10, none⟩ (.bool false)).setCell ⟨w.heap.size, 11, none⟩ (.int .u32 0)).setCell ⟨w.heap.size, 12, none⟩ (.int .u32 0)).setCell ⟨w.heap.size, 13, none⟩ (.int .i64 0)).setCell ⟨w.heap.size, 14, none⟩ (.int .i64 0)).setCell ⟨w.heap.size, 15, none⟩ (.int .i64 0)).setCell ⟨w.heap.size, 16, none⟩ (.slice none 0 0))) := ((((((HB1.out.setCell (Nat.le_refl _) _).setCell (Nat.le_refl _) _).setCell (Nat.le_refl _) _).setCell (Nat.le_refl _) _).setCell (Nat.le_refl _) _).setCell (Nat.le_refl _) _).setCell (Nat.le_refl _) _
 have HY2 : Hid ((((((((w1.setCell ⟨w.heap.size, 10, none⟩ (.bool false)).setCell ⟨w.heap.size, 11, none⟩ (.int .u32 0)).setCell ⟨w.heap.size, 12, none⟩ (.int .u32 0)).setCell ⟨w.heap.size, 13, none⟩ (.int .i64 0)).setCell ⟨w.heap.size, 14, none⟩ (.int .i64 0)).setCell ⟨w.heap.size, 15, none⟩ (.int .i64 0)).setCell ⟨w.heap.size, 16, none⟩ (.slice none 0 0)).heap[w.heap.size + 1]? = some (.cells zState 39 (0, 0))) := by
  have hne : w.heap.size + 1 ≠ w.heap.size := by omega
  show _ = _
  rw [heap_setCell_other _ _ _ _ hne, heap_setCell_other _ _ _ _ hne, heap_setCell_other _ _ _ _ hne, heap_setCell_other _ _ _ _ hne, heap_setCell_other _ _ _ _ hne, heap_setCell_other _ _ _ _ hne, heap_setCell_other _ _ _ _ hne]
  exact HY1.out
 have f10 := frozen_of_row w1 w.heap.size 10 _ _ HX1.out
 have f11 := frozen_of_row w1 w.heap.size 11 _ _ HX1.out
 have f12 := frozen_of_row w1 w.heap.size 12 _ _ HX1.out
 have f13 := frozen_of_row w1 w.heap.size 13 _ _ HX1.out
 have f14 := frozen_of_row w1 w.heap.size 14 _ _ HX1.out
 have f15 := frozen_of_row w1 w.heap.size 15 _ _ HX1.out
 have f16 := frozen_of_row w1 w.heap.size 16 _ _ HX1.out
 have c10 : ∃ v, w1.cell? ⟨w.heap.size, 10, none⟩ = some v := ⟨_, cell_of_row w1 w.heap.size 10 _ _ (0, 0) HX1.out⟩
 have c11 : ∃ v, w1.cell? ⟨w.heap.size, 11, none⟩ = some v := ⟨_, cell_of_row w1 w.heap.size 11 _ _ (0, 0) HX1.out⟩
 have c12 : ∃ v, w1.cell? ⟨w.heap.size, 12, none⟩ = some v := ⟨_, cell_of_row w1 w.heap.size 12 _ _ (0, 0) HX1.out⟩
 have c13 : ∃ v, w1.cell? ⟨w.heap.size, 13, none⟩ = some v := ⟨_, cell_of_row w1 w.heap.size 13 _ _ (0, 0) HX1.out⟩
 have c14 : ∃ v, w1.cell? ⟨w.heap.size, 14, none⟩ = some v := ⟨_, cell_of_row w1 w.heap.size 14 _ _ (0, 0) HX1.out⟩
 have c15 : ∃ v, w1.cell? ⟨w.heap.size, 15, none⟩ = some v := ⟨_, cell_of_row w1 w.heap.size 15 _ _ (0, 0) HX1.out⟩
 have c16 : ∃ v, w1.cell? ⟨w.heap.size, 16, none⟩ = some v := ⟨_, cell_of_row w1 w.heap.size 16 _ _ (0, 0) HX1.out⟩
 obtain ⟨e10, c10⟩ := c10
 obtain ⟨e11, c11⟩ := c11
 obtain ⟨e12, c12⟩ := c12
 obtain ⟨e13, c13⟩ := c13
 obtain ⟨e14, c14⟩ := c14
 obtain ⟨e15, c15⟩ := c15
 obtain ⟨e16, c16⟩ := c16
 clear hb1 HX HY CM HB0 HM HX1 HY1
 go_wp2_with ((with_reducible show wpList _ _ _ _ _ _); refine wpList_load_row (o := ⟨some 10, _, _, _, _, _⟩) rfl _ (.tmp 1) rfl w.heap.size rfl _ _ _ _ HX2.out Tryz.underlying39 rfl (by kernel_rfl) ?_)
 clear f10 f11 f12 f13 f14 f15 f16 c10 c11 c12 c13 c14 c15 c16
 have LG : Hid (w.heap.size + 1 < (((((((w1.setCell ⟨w.heap.size, 10, none⟩ (.bool false)).setCell ⟨w.heap.size, 11, none⟩ (.int .u32 0)).setCell ⟨w.heap.size, 12, none⟩ (.int .u32 0)).setCell ⟨w.heap.size, 13, none⟩ (.int .i64 0)).setCell ⟨w.heap.size, 14, none⟩ (.int .i64 0)).setCell ⟨w.heap.size, 15, none⟩ (.int .i64 0)).setCell ⟨w.heap.size, 16, none⟩ (.slice none 0 0)).heap.size) := (Array.getElem?_eq_some_iff.1 HY2.out).1
 have R0 := Lib.hid (HL0.out.below (HB2.out.mono HBB.out))
 have R1 := Lib.hid (HL1.out.below (HB2.out.mono HBB.out))
 have LB : Hid (B ≤ (((((((w1.setCell ⟨w.heap.size, 10, none⟩ (.bool false)).setCell ⟨w.heap.size, 11, none⟩ (.int .u32 0)).setCell ⟨w.heap.size, 12, none⟩ (.int .u32 0)).setCell ⟨w.heap.size, 13, none⟩ (.int .i64 0)).setCell ⟨w.heap.size, 14, none⟩ (.int .i64 0)).setCell ⟨w.heap.size, 15, none⟩ (.int .i64 0)).setCell ⟨w.heap.size, 16, none⟩ (.slice none 0 0)).heap.size) := Nat.le_trans HBB.out HB2.out.size
 clear HX2 HB1 HL0 HL1
 generalize (((((((w1.setCell ⟨w.heap.size, 10, none⟩ (.bool false)).setCell ⟨w.heap.size, 11, none⟩ (.int .u32 0)).setCell ⟨w.heap.size, 12, none⟩ (.int .u32 0)).setCell ⟨w.heap.size, 13, none⟩ (.int .i64 0)).setCell ⟨w.heap.size, 14, none⟩ (.int .i64 0)).setCell ⟨w.heap.size, 15, none⟩ (.int .i64 0)).setCell ⟨w.heap.size, 16, none⟩ (.slice none 0 0)) = W at *
 refine (own_any act trial flo gen v0 l0 A0 n0 c0 v1 l1 A1 n1 c1 false 0 0 0 0 0 none 0 0 B h0 h1 [] W R0.out R1.out (Row.nil _ _ _) LB.out hn0 hn1 (by omega)).mono ?_
 rintro e w3 ⟨A0', c0', A1', c1', A', c', rfl, Q0, Q1, Q2, hb3⟩
 have HY3 := Lib.hid ((hb3.out.block (w.heap.size + 1) LG.out).trans HY2.out)
 have HB3 : Hid (Below w.heap.size w w3) := HB2.out.trans (hb3.out.mono HB2.out.size)
 have LW : Hid (w.heap.size ≤ W.heap.size) := HB2.out.size
 clear hb3 HY2 HB2 R0 R1 LB
 go_wp2_with ((with_reducible show wpList _ _ _ _ _ _); refine wpList_store_row rfl _ (.tmp 2) (.tmp 11) rfl (w.heap.size + 1) #[.int .i64 act, .int .i64 trial, .int .u32 (flo : Int), .int .u32 (gen : Int), .int .u32 (v0 : Int), .int .i64 l0, .slice A0' n0 c0', .int .u32 (v1 : Int), .int .i64 l1, .slice A1' n1 c1', .bool false, .int .u32 0, .int .u32 0, .int .i64 0, .int .i64 0, .int .i64 0, .slice A' 0 c'] rfl rfl _ _ HY3.out (by kernel_rfl) (by rfl) (by simp [Value.oneCell']) ?_)
 have hrow : (w3.setRow (w.heap.size + 1) #[.int .i64 act, .int .i64 trial, .int .u32 (flo : Int), .int .u32 (gen : Int), .int .u32 (v0 : Int), .int .i64 l0, .slice A0' n0 c0', .int .u32 (v1 : Int), .int .i64 l1, .slice A1' n1 c1', .bool false, .int .u32 0, .int .u32 0, .int .i64 0, .int .i64 0, .int .i64 0, .slice A' 0 c']).heap[w.heap.size + 1]? = some (.cells #[.int .i64 act, .int .i64 trial, .int .u32 (flo : Int), .int .u32 (gen : Int), .int .u32 (v0 : Int), .int .i64 l0, .slice A0' n0 c0', .int .u32 (v1 : Int), .int .i64 l1, .slice A1' n1 c1', .bool false, .int .u32 0, .int .u32 0, .int .i64 0, .int .i64 0, .int .i64 0, .slice A' 0 c'] 39 (0, 0)) := setRow_heap _ _ _ _ _ _ HY3.out
 have hk : ∀ b, W.heap.size ≤ b → b < w3.heap.size → (w3.setRow (w.heap.size + 1) #[.int .i64 act, .int .i64 trial, .int .u32 (flo : Int), .int .u32 (gen : Int), .int .u32 (v0 : Int), .int .i64 l0, .slice A0' n0 c0', .int .u32 (v1 : Int), .int .i64 l1, .slice A1' n1 c1', .bool false, .int .u32 0, .int .u32 0, .int .i64 0, .int .i64 0, .int .i64 0, .slice A' 0 c']).heap[b]? = w3.heap[b]? := fun b h1 _ => setRow_other w3 (w.heap.size + 1) b _ (by have := LG.out; omega)
 refine bodyPost_ret (results_cell_row rfl _ _ (w.heap.size + 1) _ _ (0, 0) _ rfl hrow Tryz.underlying39 rfl (by kernel_rfl)) rfl ?_
 exact ⟨A0', c0', A1', c1', A', c', rfl, (Q0.out.keep (by simp) hk).less LW.out, (Q1.out.keep (by simp) hk).less LW.out, (Q2.out.keep (by simp) hk).less LW.out, below_setRow2 HB3.out (Nat.le_succ _) _⟩
end Go.Proofs.YtmncpgfdpcckpaaGreatDoor
namespace Go.Proofs.YtmncpgfdpcckpaaGreatDoor
open Go.RowKit
theorem drew_heap (w : World) : w.drew.heap = w.heap := rfl
theorem RowF.of_own {w : World} {base n c : Nat} {e : TypeId} {A : Option Addr} {xs : List Value} (h : w.ownsRow base e 1 (.slice A n c) n xs) : RowF w base A n xs := by
 refine ⟨(Row.of_own h).1, fun hn => ?_⟩
 obtain ⟨b, o, ee, hlt, hc⟩ := (Row.of_own h).2 hn
 have := (h.lt b (by rw [ee]; rfl)).1
 exact ⟨b, o, ee, hlt, by omega, hc⟩
theorem keep7 {w : World} {g b : Nat} (h : b ≠ g) (b0 b1 b2 b3 b4 b5 b6 : Value) :
  ((((((((w.setCell ⟨g, 10, none⟩ b0).setCell ⟨g, 11, none⟩ b1).setCell ⟨g, 12, none⟩ b2).setCell ⟨g, 13, none⟩ b3).setCell ⟨g, 14, none⟩ b4).setCell ⟨g, 15, none⟩ b5).setCell ⟨g, 16, none⟩ b6).drew).heap[b]? = w.heap[b]? := by
 rw [drew_heap, heap_setCell_other _ _ _ _ h, heap_setCell_other _ _ _ _ h, heap_setCell_other _ _ _ _ h, heap_setCell_other _ _ _ _ h, heap_setCell_other _ _ _ _ h, heap_setCell_other _ _ _ _ h, heap_setCell_other _ _ _ _ h]
theorem below7 {w w' : World} {g B : Nat} (h : Below B w w') (hg : B ≤ g) (b0 b1 b2 b3 b4 b5 b6 : Value) :
  Below B w ((((((((w'.setCell ⟨g, 10, none⟩ b0).setCell ⟨g, 11, none⟩ b1).setCell ⟨g, 12, none⟩ b2).setCell ⟨g, 13, none⟩ b3).setCell ⟨g, 14, none⟩ b4).setCell ⟨g, 15, none⟩ b5).setCell ⟨g, 16, none⟩ b6).drew) :=
 (((((((h.setCell hg _).setCell hg _).setCell hg _).setCell hg _).setCell hg _).setCell hg _).setCell hg _).drew
theorem size7 {w : World} {g : Nat} (b0 b1 b2 b3 b4 b5 b6 : Value) :
  ((((((((w.setCell ⟨g, 10, none⟩ b0).setCell ⟨g, 11, none⟩ b1).setCell ⟨g, 12, none⟩ b2).setCell ⟨g, 13, none⟩ b3).setCell ⟨g, 14, none⟩ b4).setCell ⟨g, 15, none⟩ b5).setCell ⟨g, 16, none⟩ b6).drew).heap.size = w.heap.size := by rw [drew_heap]; simp
theorem set7d {w : World} {g : Nat} {t : TypeId} {a0 a1 a2 a3 a4 a5 a6 a7 a8 a9 a10 a11 a12 a13 a14 a15 a16 : Value} (h : w.heap[g]? = some (.cells #[a0, a1, a2, a3, a4, a5, a6, a7, a8, a9, a10, a11, a12, a13, a14, a15, a16] t (0, 0))) (b0 b1 b2 b3 b4 b5 b6 : Value) :
  ((((((((w.setCell ⟨g, 10, none⟩ b0).setCell ⟨g, 11, none⟩ b1).setCell ⟨g, 12, none⟩ b2).setCell ⟨g, 13, none⟩ b3).setCell ⟨g, 14, none⟩ b4).setCell ⟨g, 15, none⟩ b5).setCell ⟨g, 16, none⟩ b6).drew).heap[g]? = some (.cells #[a0, a1, a2, a3, a4, a5, a6, a7, a8, a9, b0, b1, b2, b3, b4, b5, b6] t (0, 0)) := by
 rw [drew_heap]
 exact set7 h b0 b1 b2 b3 b4 b5 b6
def AdmitYes (act : Int) (flo gen v0 : Nat) (l0 : Int) (n0 : Nat) (v1 : Nat) (l1 : Int) (n1 : Nat) (ms mv : Nat) (ml mz mp : Int) (h0 h1 mh : List UInt8) (w : World) (e : Ending) (w' : World) : Prop :=
 ∃ A0' c0' A1' c1' A' c', e = .returned (.tuple #[.agg #[.int .i64 act, .int .i64 0, .int .u32 (flo : Int), .int .u32 ((gen + 1 : Nat) : Int), .int .u32 (v0 : Int), .int .i64 l0, .slice A0' n0 c0', .int .u32 (v1 : Int), .int .i64 l1, .slice A1' n1 c1', .bool true, .int .u32 (ms : Int), .int .u32 (mv : Int), .int .i64 ml, .int .i64 mz, .int .i64 mp, .slice A' 32 c'], .int .i64 0]) ∧ Hid (RowF w' w.heap.size A0' n0 (bv h0)) ∧ Hid (RowF w' w.heap.size A1' n1 (bv h1)) ∧ Hid (RowF w' w.heap.size A' 32 (bv mh)) ∧ Hid (Below w.heap.size w w')
end Go.Proofs.YtmncpgfdpcckpaaGreatDoor
