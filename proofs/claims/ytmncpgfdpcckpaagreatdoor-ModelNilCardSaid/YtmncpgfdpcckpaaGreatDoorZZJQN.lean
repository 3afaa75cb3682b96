/- What a model tells: the image that runs, its state: by contracts. -/
import Derived.StillTailTactics
import Derived.Test.YtmncpgfdpcckpaaGreatDoorZMFQN
import Derived.Test.YtmncpgfdpcckpaaGreatDoorZAQN
import Derived.Test.YtmncpgfdpcckpaaGreatDoorZMDQN
import Derived.Test.YtmncpgfdpcckpaaGreatDoorCarNewQN
set_option maxRecDepth 100000
namespace Go.Proofs.YtmncpgfdpcckpaaGreatDoor.Mo
open Go.RowKit
open VecM RdM Vc Sp Pc El Cd Dc
def RunOk (l : List UInt8) (w : World) (e : Ending) (w' : World) : Prop :=
 ∃ A m c, e = .returned (.slice A m c) ∧ Hid (m = l.length) ∧ Hid (w'.ownsRow w.heap.size 5 1 (.slice A m c) m (bv l)) ∧ Hid (Below w.heap.size w w')
set_option maxHeartbeats 1600000 in
theorem run_any {g n : Nat} {q : MoD} {F : Nat → Prop} {w : World} (h : IsMo g q w F) (ok : MoOk q n) : Calls Tryz.prog 11 #[.pointer (some ⟨g, 0, none⟩)] w (RunOk q.run w) := by
 have h0 := ok.i0
 have h1' := ok.i1
 obtain ⟨ha, _, _⟩ := stMay_act ok.may
 obtain ⟨Ak, ck, cs, A0, c0, A1, c1, pd, G, Fd, h1, hb, hst, hk1, hr0, hr1, hd, hG, hF⟩ := h
 have ca : w.cell? ⟨g, 1, none⟩ = some (.int .i64 q.L.act) := hb.st 0 _ (by rw [Array.getElem?_toList]; exact hst.c0)
 obtain ⟨_, _, hca, hcb, _, _, _⟩ := hb
 have HC0 := Lib.hid (clone_any w.heap.size q.i0.length c0 A0 q.i0 w.drew hr0.row (by omega) (Nat.le_refl _))
 have HC1 := Lib.hid (clone_any w.heap.size q.i1.length c1 A1 q.i1 w.drew hr1.row (by omega) (Nat.le_refl _))
 have HBD : Hid (Below w.heap.size w w.drew) := Lib.hid (Below.refl _ _).drew
 rcases ha with ha | ha
 ·have HQ : Hid (q.run = q.i0) := Lib.hid (by unfold MoD.run; rw [if_pos ha])
  rw [ha] at ca
  rw [HQ.out]
  generalize q.i0.length = m0 at *
  clear HC1 hst hk1 hr0 hr1 hd hG hF h1 ok hcb ha h0 h1'
  go_enter Tryz.func11, Tryz.ntmps11
  go_wp2_with fail
  refine wp_region_still_tail 10 (by kernel_rfl) (by kernel_rfl) ?_
  simp only [List.take_succ_cons, List.take_zero, List.drop_succ_cons, List.drop_zero]
  repeat still_step
  refine wpStill_nil ?_
  change wpList _ _ _ _ _ w.drew
  generalize w.drew = w1 at *
  go_wp2_with fail
  refine HC0.out.mono ?_
  rintro e w2 ⟨A, m, c, rfl, hm, ho, hb⟩
  go_wp2_with fail
  go_ret
  exact ⟨A, m, c, rfl, hm, Lib.hid (own_base ho HBD.out.size), Lib.hid (HBD.out.trans (hb.mono HBD.out.size))⟩
 ·have HQ : Hid (q.run = q.i1) := Lib.hid (by unfold MoD.run; rw [if_neg (by omega)])
  rw [ha] at ca
  rw [HQ.out]
  generalize q.i1.length = m0 at *
  clear HC0 hst hk1 hr0 hr1 hd hG hF h1 ok hca ha h0 h1'
  go_enter Tryz.func11, Tryz.ntmps11
  go_wp2_with fail
  refine wp_region_still_tail 10 (by kernel_rfl) (by kernel_rfl) ?_
  simp only [List.take_succ_cons, List.take_zero, List.drop_succ_cons, List.drop_zero]
  repeat still_step
  refine wpStill_nil ?_
  change wpList _ _ _ _ _ w.drew
  generalize w.drew = w1 at *
  go_wp2_with fail
  refine HC1.out.mono ?_
  rintro e w2 ⟨A, m, c, rfl, hm, ho, hb⟩
  go_wp2_with fail
  go_ret
  exact ⟨A, m, c, rfl, hm, Lib.hid (own_base ho HBD.out.size), Lib.hid (HBD.out.trans (hb.mono HBD.out.size))⟩
def Pk (w : World) (k i b : Nat) : Prop := b ≠ w.heap.size ∧ b ≠ w.heap.size + 1 ∧ (i < k → w.heap.size + 1 < b)
def SA (L : LSt) (k : Nat) (w W : World) : Prop :=
 (∃ A0 c0 A1 c1 A c, W.heap[w.heap.size + 1]? = some (.cells (L.cells A0 c0 A1 c1 A c) 39 (0, 0)) ∧ RowP W (Pk w k 0) A0 L.h0.length (bv L.h0) ∧ RowP W (Pk w k 1) A1 L.h1.length (bv L.h1) ∧ RowP W (Pk w k 2) A L.m.h.length (bv L.m.h)) ∧
  W.heap[w.heap.size]? = some (.cells zState 39 (0, 0)) ∧ Below w.heap.size w W
theorem rowP_put {w W W2 : World} {k k' i j n : Nat} {A : Option Addr} {xs : List Value} {v : Value} (h : RowP W (Pk w k i) A n xs) (hb : Below W.heap.size W W2) (hk : i < k' → i < k) : RowP (W2.setCell ⟨w.heap.size + 1, j, none⟩ v) (Pk w k' i) A n xs :=
 ((h.below hb).keep (by simp) fun b hp _ => heap_setCell_other _ _ _ _ (fun e => hp.2.1 e)).imp fun _ _ hp => ⟨hp.1, hp.2.1, fun hi => hp.2.2 (hk hi)⟩
theorem rowP_new {w W W2 : World} {k' i j n c : Nat} {A : Option Addr} {xs : List Value} {v : Value} (h : W2.ownsRow W.heap.size 5 1 (.slice A n c) n xs) (hl : w.heap.size + 1 < W.heap.size) : RowP (W2.setCell ⟨w.heap.size + 1, j, none⟩ v) (Pk w k' i) A n xs := by
 have hr : RowP W2 (Pk w k' i) A n xs := by
  refine ⟨(Row.of_own h).1, fun hn => ?_⟩
  obtain ⟨b, o, e, hb, hc⟩ := (Row.of_own h).2 hn
  have hlt := (h.lt b (by rw [e]; rfl)).1
  exact ⟨b, o, e, hb, ⟨by omega, by omega, fun _ => by omega⟩, hc⟩
 exact hr.keep (by simp) fun b hp _ => heap_setCell_other _ _ _ _ (fun e => hp.2.1 e)
set_option maxHeartbeats 3200000 in
theorem state_any {g n : Nat} {q : MoD} {F : Nat → Prop} {w : World} (h : IsMo g q w F) (ok : MoOk q n) : Calls Tryz.prog 13 #[.pointer (some ⟨g, 0, none⟩)] w (RetS q.L w) := by
 have HL := Lib.hid (light_of_may ok.may)
 obtain ⟨Ak, ck, cs, A0, c0, A1, c1, pd, G, Fd, h1, hb, hst, hk1, hr0, hr1, hd, hG, hF⟩ := h
 have hbz : Below w.heap.size w (w.alloc (.cells #[.int .i64 0, .int .i64 0, .int .u32 0, .int .u32 0, .int .u32 0, .int .i64 0, .slice none 0 0, .int .u32 0, .int .i64 0, .slice none 0 0, .bool false, .int .u32 0, .int .u32 0, .int .i64 0, .int .i64 0, .int .i64 0, .slice none 0 0] 39)) := (Below.refl _ _).alloc (Nat.le_refl _) _
 have HB := Lib.hid (hb.keep (hbz.block g hb.lt) hbz.size).st
 have IN := Lib.hid hst.inf
 have ZN : Hid (17 = cs.size) := Lib.hid hst.size.symm
 have ON := Lib.hid hst.one
 have hSA : ∀ W, Below w.heap.size w W → W.heap[w.heap.size + 1]? = some (.cells cs 39 (0, 0)) → W.heap[w.heap.size]? = some (.cells zState 39 (0, 0)) → SA q.L 0 w W := by
  intro W hW hx hz
  obtain ⟨B0, d0, B1, d1, B, d, rfl, r0, r1, r2⟩ := hst
  have kk : ∀ i b, b < w.heap.size → G b → b < w.heap.size ∧ Pk w 0 i b := fun i b hl _ => ⟨hl, by omega, by omega, fun h => absurd h (Nat.not_lt_zero _)⟩
  exact ⟨⟨B0, d0, B1, d1, B, d, hx, ((r0.imp (kk 0)).below hW).imp fun _ _ h => h.2, ((r1.imp (kk 1)).below hW).imp fun _ _ h => h.2, ((r2.imp (kk 2)).below hW).imp fun _ _ h => h.2⟩, hz, hW⟩
 have HX1 : Hid (((w.alloc (.cells #[.int .i64 0, .int .i64 0, .int .u32 0, .int .u32 0, .int .u32 0, .int .i64 0, .slice none 0 0, .int .u32 0, .int .i64 0, .slice none 0 0, .bool false, .int .u32 0, .int .u32 0, .int .i64 0, .int .i64 0, .int .i64 0, .slice none 0 0] 39)).alloc (.cells #[.int .i64 0, .int .i64 0, .int .u32 0, .int .u32 0, .int .u32 0, .int .i64 0, .slice none 0 0, .int .u32 0, .int .i64 0, .slice none 0 0, .bool false, .int .u32 0, .int .u32 0, .int .i64 0, .int .i64 0, .int .i64 0, .slice none 0 0] 39)).heap[w.heap.size + 1]? = some (.cells #[.int .i64 0, .int .i64 0, .int .u32 0, .int .u32 0, .int .u32 0, .int .i64 0, .slice none 0 0, .int .u32 0, .int .i64 0, .slice none 0 0, .bool false, .int .u32 0, .int .u32 0, .int .i64 0, .int .i64 0, .int .i64 0, .slice none 0 0] 39 (0, 0))) := Lib.hid (by
  have h := heap_alloc_new (w.alloc (.cells #[.int .i64 0, .int .i64 0, .int .u32 0, .int .u32 0, .int .u32 0, .int .i64 0, .slice none 0 0, .int .u32 0, .int .i64 0, .slice none 0 0, .bool false, .int .u32 0, .int .u32 0, .int .i64 0, .int .i64 0, .int .i64 0, .slice none 0 0] 39)) (.cells #[.int .i64 0, .int .i64 0, .int .u32 0, .int .u32 0, .int .u32 0, .int .i64 0, .slice none 0 0, .int .u32 0, .int .i64 0, .slice none 0 0, .bool false, .int .u32 0, .int .u32 0, .int .i64 0, .int .i64 0, .int .i64 0, .slice none 0 0] 39)
  rwa [show (w.alloc (.cells #[.int .i64 0, .int .i64 0, .int .u32 0, .int .u32 0, .int .u32 0, .int .i64 0, .slice none 0 0, .int .u32 0, .int .i64 0, .slice none 0 0, .bool false, .int .u32 0, .int .u32 0, .int .i64 0, .int .i64 0, .int .i64 0, .slice none 0 0] 39)).heap.size = w.heap.size + 1 by simp] at h)
 have HSA0 : Hid (SA q.L 0 w (((w.alloc (.cells #[.int .i64 0, .int .i64 0, .int .u32 0, .int .u32 0, .int .u32 0, .int .i64 0, .slice none 0 0, .int .u32 0, .int .i64 0, .slice none 0 0, .bool false, .int .u32 0, .int .u32 0, .int .i64 0, .int .i64 0, .int .i64 0, .slice none 0 0] 39)).alloc (.cells #[.int .i64 0, .int .i64 0, .int .u32 0, .int .u32 0, .int .u32 0, .int .i64 0, .slice none 0 0, .int .u32 0, .int .i64 0, .slice none 0 0, .bool false, .int .u32 0, .int .u32 0, .int .i64 0, .int .i64 0, .int .i64 0, .slice none 0 0] 39)).setRow (w.heap.size + 1) cs)) := Lib.hid (hSA _ (below_setRow2 (hbz.alloc hbz.size _) (Nat.le_succ _) _) (setRow_heap _ _ _ _ _ _ HX1.out) ((setRow_other _ _ _ _ (by omega)).trans (heap_alloc2_old w (.cells #[.int .i64 0, .int .i64 0, .int .u32 0, .int .u32 0, .int .u32 0, .int .i64 0, .slice none 0 0, .int .u32 0, .int .i64 0, .slice none 0 0, .bool false, .int .u32 0, .int .u32 0, .int .i64 0, .int .i64 0, .int .i64 0, .slice none 0 0] 39) (.cells #[.int .i64 0, .int .i64 0, .int .u32 0, .int .u32 0, .int .u32 0, .int .i64 0, .slice none 0 0, .int .u32 0, .int .i64 0, .slice none 0 0, .bool false, .int .u32 0, .int .u32 0, .int .i64 0, .int .i64 0, .int .i64 0, .slice none 0 0] 39))))
 obtain ⟨L, hL⟩ : ∃ L, q.L = L := ⟨_, rfl⟩
 rw [hL] at HL HSA0 ⊢
 clear hb hst hk1 hr0 hr1 hd hG hF h1 ok hSA hbz hL
 go_enter Tryz.func13, Tryz.ntmps13
 go_wp2_with (first
  | ((with_reducible show wpList _ _ _ _ _ _); refine wpList_load_st (o := ⟨some 11, _, _, _, _, _⟩) rfl _ (.tmp 10) rfl g rfl cs _ HB.out Tryz.underlying39 rfl IN.out ?_)
  | ((with_reducible show wpList _ _ _ _ _ _); refine wpList_store_row rfl _ (.tmp 3) (.tmp 11) rfl (w.heap.size + 1) cs rfl rfl _ _ HX1.out IN.out ZN.out ON.out ?_))
 go_loopw [12] (fun i wr => ∃ k : Nat, k ≤ 2 ∧ i = .int .i64 k ∧ Hid (SA L k w wr)) (fun i _ => 2 - (intOf i).toNat)
 case atStart => exact ⟨0, by omega, rfl, HSA0⟩
 case round =>
  obtain ⟨k, hk, rfl, hd⟩ := hrel
  clear HSA0 HB HX1
  obtain ⟨⟨A0, c0, A1, c1, A, c, hx, r0, r1, r2⟩, hy, hb⟩ := hd.out
  have HX := Lib.hid hx
  have HY := Lib.hid hy
  have HB1 := Lib.hid hb
  have R0 := Lib.hid r0
  have R1 := Lib.hid r1
  have R2 := Lib.hid r2
  have LG : Hid (w.heap.size + 1 < wr.heap.size) := Lib.hid (Array.getElem?_eq_some_iff.1 hx).1
  clear hx hy hb r0 r1 r2 hd
  rcases (by omega : k = 0 ∨ k = 1 ∨ k = 2) with rfl | rfl | rfl
  ·have c1x : wr.cell? ⟨w.heap.size + 1, 6, none⟩ = some (.slice A0 L.h0.length c0) := cell_of_row wr (w.heap.size + 1) 6 _ _ (0, 0) HX.out
   have f1x := frozen_of_row wr (w.heap.size + 1) 6 _ _ HX.out
   have HCL := Lib.hid (clone_any wr.heap.size L.h0.length c0 A0 L.h0 wr R0.out.row (by have := HL.out; unfold LSt.light at this; omega) (Nat.le_refl _))
   obtain ⟨m, hm⟩ : ∃ m, L.h0.length = m := ⟨_, rfl⟩
   rw [hm] at HCL c1x
   have HMM := Lib.hid hm
   clear hm
   go_wp2_with fail
   refine HCL.out.mono ?_
   rintro e w2 ⟨AN, nn, cN, rfl, hnn, hown, hb2⟩
   obtain rfl : nn = m := hnn.out.trans HMM.out
   clear c1x f1x HCL
   have c2x := cell_of_row w2 (w.heap.size + 1) 6 _ _ (0, 0) ((hb2.block (w.heap.size + 1) LG.out).trans HX.out)
   have f2x := frozen_of_row w2 (w.heap.size + 1) 6 _ _ ((hb2.block (w.heap.size + 1) LG.out).trans HX.out)
   have hD : Hid (SA L 1 w (w2.setCell ⟨w.heap.size + 1, 6, none⟩ (.slice AN nn cN))) := Lib.hid (by
    have hx2 := heap_setCell_same w2 (w.heap.size + 1) 6 _ _ (.slice AN nn cN) ((hb2.block (w.heap.size + 1) LG.out).trans HX.out)
    have hnw : RowP (w2.setCell ⟨w.heap.size + 1, 6, none⟩ (.slice AN nn cN)) (Pk w 1 0) AN L.h0.length (bv L.h0) := by rw [HMM.out]; exact rowP_new hown LG.out
    rw [← HMM.out] at hx2 hnw ⊢
    refine ⟨⟨AN, cN, A1, c1, A, c, hx2, hnw, rowP_put R1.out hb2 (by omega), rowP_put R2.out hb2 (by omega)⟩, ?_, ?_⟩
    ·exact (heap_setCell_other _ _ _ _ (by show w.heap.size ≠ w.heap.size + 1; omega)).trans ((hb2.block w.heap.size (by have := LG.out; omega)).trans HY.out)
    ·exact (HB1.out.trans (hb2.mono HB1.out.size)).setCell (Nat.le_succ _) _)
   clear hown hb2 hnn
   go_wp2_with fail
   go_roundw
   case rel => exact ⟨1, by omega, by go_num, hD⟩
   case measure => simp [intOf]
  ·have c1x : wr.cell? ⟨w.heap.size + 1, 9, none⟩ = some (.slice A1 L.h1.length c1) := cell_of_row wr (w.heap.size + 1) 9 _ _ (0, 0) HX.out
   have f1x := frozen_of_row wr (w.heap.size + 1) 9 _ _ HX.out
   have HCL := Lib.hid (clone_any wr.heap.size L.h1.length c1 A1 L.h1 wr R1.out.row (by have := HL.out; unfold LSt.light at this; omega) (Nat.le_refl _))
   obtain ⟨m, hm⟩ : ∃ m, L.h1.length = m := ⟨_, rfl⟩
   rw [hm] at HCL c1x
   have HMM := Lib.hid hm
   clear hm
   go_wp2_with fail
   refine HCL.out.mono ?_
   rintro e w2 ⟨AN, nn, cN, rfl, hnn, hown, hb2⟩
   obtain rfl : nn = m := hnn.out.trans HMM.out
   clear c1x f1x HCL
   have c2x := cell_of_row w2 (w.heap.size + 1) 9 _ _ (0, 0) ((hb2.block (w.heap.size + 1) LG.out).trans HX.out)
   have f2x := frozen_of_row w2 (w.heap.size + 1) 9 _ _ ((hb2.block (w.heap.size + 1) LG.out).trans HX.out)
   have hD : Hid (SA L 2 w (w2.setCell ⟨w.heap.size + 1, 9, none⟩ (.slice AN nn cN))) := Lib.hid (by
    have hx2 := heap_setCell_same w2 (w.heap.size + 1) 9 _ _ (.slice AN nn cN) ((hb2.block (w.heap.size + 1) LG.out).trans HX.out)
    have hnw : RowP (w2.setCell ⟨w.heap.size + 1, 9, none⟩ (.slice AN nn cN)) (Pk w 2 1) AN L.h1.length (bv L.h1) := by rw [HMM.out]; exact rowP_new hown LG.out
    rw [← HMM.out] at hx2 hnw ⊢
    refine ⟨⟨A0, c0, AN, cN, A, c, hx2, rowP_put R0.out hb2 (by omega), hnw, rowP_put R2.out hb2 (by omega)⟩, ?_, ?_⟩
    ·exact (heap_setCell_other _ _ _ _ (by show w.heap.size ≠ w.heap.size + 1; omega)).trans ((hb2.block w.heap.size (by have := LG.out; omega)).trans HY.out)
    ·exact (HB1.out.trans (hb2.mono HB1.out.size)).setCell (Nat.le_succ _) _)
   clear hown hb2 hnn
   go_wp2_with fail
   go_roundw
   case rel => exact ⟨2, by omega, by go_num, hD⟩
   case measure => simp [intOf]
  ·have c1x : wr.cell? ⟨w.heap.size + 1, 16, none⟩ = some (.slice A L.m.h.length c) := cell_of_row wr (w.heap.size + 1) 16 _ _ (0, 0) HX.out
   have f1x := frozen_of_row wr (w.heap.size + 1) 16 _ _ HX.out
   have HCL := Lib.hid (clone_any wr.heap.size L.m.h.length c A L.m.h wr R2.out.row (by have := HL.out; unfold LSt.light at this; omega) (Nat.le_refl _))
   obtain ⟨m, hm⟩ : ∃ m, L.m.h.length = m := ⟨_, rfl⟩
   rw [hm] at HCL c1x
   have HMM := Lib.hid hm
   clear hm
   go_wp2_with fail
   refine HCL.out.mono ?_
   rintro e w2 ⟨AN, nn, cN, rfl, hnn, hown, hb2⟩
   obtain rfl : nn = m := hnn.out.trans HMM.out
   clear c1x f1x HCL
   have c2x := cell_of_row w2 (w.heap.size + 1) 16 _ _ (0, 0) ((hb2.block (w.heap.size + 1) LG.out).trans HX.out)
   have f2x := frozen_of_row w2 (w.heap.size + 1) 16 _ _ ((hb2.block (w.heap.size + 1) LG.out).trans HX.out)
   have hD : Hid (SA L 3 w (w2.setCell ⟨w.heap.size + 1, 16, none⟩ (.slice AN nn cN))) := Lib.hid (by
    have hx2 := heap_setCell_same w2 (w.heap.size + 1) 16 _ _ (.slice AN nn cN) ((hb2.block (w.heap.size + 1) LG.out).trans HX.out)
    have hnw : RowP (w2.setCell ⟨w.heap.size + 1, 16, none⟩ (.slice AN nn cN)) (Pk w 3 2) AN L.m.h.length (bv L.m.h) := by rw [HMM.out]; exact rowP_new hown LG.out
    rw [← HMM.out] at hx2 hnw ⊢
    refine ⟨⟨A0, c0, A1, c1, AN, cN, hx2, rowP_put R0.out hb2 (by omega), rowP_put R1.out hb2 (by omega), hnw⟩, ?_, ?_⟩
    ·exact (heap_setCell_other _ _ _ _ (by show w.heap.size ≠ w.heap.size + 1; omega)).trans ((hb2.block w.heap.size (by have := LG.out; omega)).trans HY.out)
    ·exact (HB1.out.trans (hb2.mono HB1.out.size)).setCell (Nat.le_succ _) _)
   clear hown hb2 hnn
   obtain ⟨⟨B0, d0, B1, d1, BB, dd, hx3, q0, q1, q2⟩, hy3, hb3⟩ := hD.out
   have hzz : L.cells B0 d0 B1 d1 BB dd = L.cells B0 d0 B1 d1 BB dd := rfl
   obtain ⟨ds, hds⟩ : ∃ ds, L.cells B0 d0 B1 d1 BB dd = ds := ⟨_, rfl⟩
   have hS3 : IsSt (w2.setCell ⟨w.heap.size + 1, 16, none⟩ (.slice AN nn cN)) (fun b => w.heap.size + 1 < b) ds L := ⟨B0, d0, B1, d1, BB, dd, hds.symm, q0.imp fun _ _ hp => hp.2.2 (by omega), q1.imp fun _ _ hp => hp.2.2 (by omega), q2.imp fun _ _ hp => hp.2.2 (by omega)⟩
   rw [hds] at hx3
   have HX3 := Lib.hid hx3
   have HY3 := Lib.hid hy3
   have HB3 := Lib.hid hb3
   have HS3 := Lib.hid hS3
   have I3 := Lib.hid hS3.inf
   have O3 := Lib.hid hS3.one
   have Z3 := Lib.hid hS3.size
   clear hzz hD hx3 hy3 hb3 hS3 q0 q1 q2 hds R0 R1 R2 HX HY HB1 LG
   go_wp2_with (first
    | ((with_reducible show wpList _ _ _ _ _ _); refine wpList_load_row (o := ⟨some 32, _, _, _, _, _⟩) rfl _ (.tmp 3) rfl (w.heap.size + 1) rfl _ _ _ _ HX3.out Tryz.underlying39 rfl I3.out ?_)
    | ((with_reducible show wpList _ _ _ _ _ _); refine wpList_store_row rfl _ (.tmp 2) (.tmp 32) rfl w.heap.size ds rfl rfl _ _ HY3.out I3.out (by rw [Z3.out]; rfl) O3.out ?_))
   generalize w2.setCell ⟨w.heap.size + 1, 16, none⟩ (.slice AN nn cN) = w4 at *
   have hrow : (w4.setRow w.heap.size ds).heap[w.heap.size]? = some (.cells ds 39 (0, 0)) := setRow_heap _ _ _ _ _ _ HY3.out
   refine bodyPost_ret (results_cell_row rfl _ _ w.heap.size _ _ (0, 0) _ rfl hrow Tryz.underlying39 rfl I3.out) rfl ?_
   exact ⟨ds, rfl, Lib.hid ((HS3.out.keep (by simp) fun b hp _ => setRow_other _ _ _ _ (by omega)).imp fun b _ hp => by omega), Lib.hid (below_setRow2 HB3.out (Nat.le_refl _) _)⟩
end Go.Proofs.YtmncpgfdpcckpaaGreatDoor.Mo
namespace Go.Proofs.YtmncpgfdpcckpaaGreatDoor.Mo
open Go.RowKit
open VecM RdM Vc Sp Pc El Cd Dc
open Car (rowP_own)
theorem bx_of_row {W : World} {g : Nat} {T : TypeId} {k a b p : Value} {cs : Array Value} (hs : cs.size = 17) (h : W.heap[g]? = some (.cells (#[k] ++ cs ++ #[a, b, p]) T (0, 0))) : Bx W g k cs a b p := by
 have hc := fun j => cell_of_row W g j _ _ (0, 0) h
 refine ⟨?_, fun j v hv => ?_, ?_, ?_, ?_, fun j hj => ⟨?_, frozen_of_row W g _ _ _ h⟩, (Array.getElem?_eq_some_iff.1 h).1⟩
 ·rw [hc 0]; simp [hs]
 ·have hj : j < 17 := by have := (List.getElem?_eq_some_iff.1 hv).1; simp [hs] at this; exact this
  rw [hc (1 + j)]
  rw [Array.getElem?_append_left (by simp [hs]; omega), Array.getElem?_append_right (by simp)]
  simpa using hv
 ·rw [hc 18, Array.getElem?_append_right (by simp [hs])]; simp [hs]
 ·rw [hc 19, Array.getElem?_append_right (by simp [hs])]; simp [hs]
 ·rw [hc 20, Array.getElem?_append_right (by simp [hs])]; simp [hs]
 ·rw [hc (0 + j), Array.getElem?_eq_getElem (by simp [hs]; omega)]; rfl
def NewMOk (q : MoD) (w : World) (e : Ending) (w' : World) : Prop :=
 ∃ g, e = .returned (.tuple #[.pointer (some ⟨g, 0, none⟩), .int .i64 0]) ∧ Hid (IsMo g q w' (fun b => w.heap.size ≤ b ∧ b < w'.heap.size)) ∧ Hid (Below w.heap.size w w')
set_option maxHeartbeats 6400000 in
theorem newM_any {v ck ci : Nat} {Ak Ai : Option Addr} {key img : List UInt8} {w : World} (ht : Sh.Tab w) (hk : Row w w.heap.size Ak key.length (bv key)) (hk64 : key.length ≤ 64) (hi : Row w w.heap.size Ai img.length (bv img)) (h1 : 1 ≤ img.length) (h2 : img.length ≤ 512) :
  Calls Tryz.prog 16 #[.slice Ak key.length ck, .int .u32 (v : Int), .slice Ai img.length ci] w (NewMOk ⟨key, Go.Proofs.YtmncpgfdpcckpaaGreatDoor.firstL v img.length (Sha.D img), img, [], none⟩ w) := by
 have HFI := Lib.hid (first_yes v img.length ci Ai img w ht hi h1 h2)
 obtain ⟨nk, hnk⟩ : ∃ x, key.length = x := ⟨_, rfl⟩
 obtain ⟨ni, hni⟩ : ∃ x, img.length = x := ⟨_, rfl⟩
 have HKL := Lib.hid hnk
 have HIL := Lib.hid hni
 have HKR := Lib.hid hk
 have HIR := Lib.hid hi
 have HK64 := Lib.hid hk64
 have HI512 := Lib.hid h2
 rw [hni] at HFI ⊢
 rw [hnk] at hk64 ⊢
 have h64 : ¬ (64 : Int) < (nk : Int) := by omega
 clear hnk hni hk hi ht h1 h2 hk64
 go_enter Tryz.func16, Tryz.ntmps16
 go_wp2_with fail
 refine HFI.out.mono ?_
 rintro e w1 ⟨cs, rfl, hs1, hb1⟩
 obtain ⟨B0, d0, B1, d1, B, d, hcs, r0, r1, r2⟩ := hs1.out
 obtain ⟨hl, hhl⟩ : ∃ x, (Sha.D img).length = x := ⟨_, rfl⟩
 have hcl : cs = #[.int .i64 0, .int .i64 0, .int .u32 0, .int .u32 0, .int .u32 (v : Int), .int .i64 (ni : Int), .slice B0 hl d0, .int .u32 0, .int .i64 0, .slice B1 0 d1, .bool false, .int .u32 0, .int .u32 0, .int .i64 0, .int .i64 0, .int .i64 0, .slice B 0 d] := by rw [hcs]; unfold LSt.cells firstL LMan.zero; dsimp only; rw [hhl]; rfl
 subst hcl
 have HS1 := Lib.hid hs1.out
 have HB1 := Lib.hid hb1.out
 clear hcs r0 r1 r2 hs1 hb1 hhl HFI
 go_upto_region 4 with fail
 have HX2 := Lib.hid (heap_alloc_new w1 (.cells #[.int .i64 0, .int .i64 0, .int .u32 0, .int .u32 0, .int .u32 (v : Int), .int .i64 (ni : Int), .slice B0 hl d0, .int .u32 0, .int .i64 0, .slice B1 0 d1, .bool false, .int .u32 0, .int .u32 0, .int .i64 0, .int .i64 0, .int .i64 0, .slice B 0 d] 39))
 have HB2 : Hid (Below w.heap.size w (w1.alloc (.cells #[.int .i64 0, .int .i64 0, .int .u32 0, .int .u32 0, .int .u32 (v : Int), .int .i64 (ni : Int), .slice B0 hl d0, .int .u32 0, .int .i64 0, .slice B1 0 d1, .bool false, .int .u32 0, .int .u32 0, .int .i64 0, .int .i64 0, .int .i64 0, .slice B 0 d] 39))) := Lib.hid (HB1.out.alloc HB1.out.size _)
 have HS2 : Hid (IsSt (w1.alloc (.cells #[.int .i64 0, .int .i64 0, .int .u32 0, .int .u32 0, .int .u32 (v : Int), .int .i64 (ni : Int), .slice B0 hl d0, .int .u32 0, .int .i64 0, .slice B1 0 d1, .bool false, .int .u32 0, .int .u32 0, .int .i64 0, .int .i64 0, .int .i64 0, .slice B 0 d] 39)) (fun b => w.heap.size ≤ b) #[.int .i64 0, .int .i64 0, .int .u32 0, .int .u32 0, .int .u32 (v : Int), .int .i64 (ni : Int), .slice B0 hl d0, .int .u32 0, .int .i64 0, .slice B1 0 d1, .bool false, .int .u32 0, .int .u32 0, .int .i64 0, .int .i64 0, .int .i64 0, .slice B 0 d] (Go.Proofs.YtmncpgfdpcckpaaGreatDoor.firstL v ni (Sha.D img))) := Lib.hid (HS1.out.below ((Below.refl _ _).alloc (Nat.le_refl _) _))
 have HL2 : Hid (w1.heap.size < (w1.alloc (.cells #[.int .i64 0, .int .i64 0, .int .u32 0, .int .u32 0, .int .u32 (v : Int), .int .i64 (ni : Int), .slice B0 hl d0, .int .u32 0, .int .i64 0, .slice B1 0 d1, .bool false, .int .u32 0, .int .u32 0, .int .i64 0, .int .i64 0, .int .i64 0, .slice B 0 d] 39)).heap.size) := Lib.hid (by simp)
 generalize w1.alloc (.cells #[.int .i64 0, .int .i64 0, .int .u32 0, .int .u32 0, .int .u32 (v : Int), .int .i64 (ni : Int), .slice B0 hl d0, .int .u32 0, .int .i64 0, .slice B1 0 d1, .bool false, .int .u32 0, .int .u32 0, .int .i64 0, .int .i64 0, .int .i64 0, .slice B 0 d] 39) = w2 at *
 clear HS1
 have HMB : Hid (∀ W, Below w2.heap.size w2 W → W.heap[w1.heap.size]? = some (.cells #[.int .i64 0, .int .i64 0, .int .u32 0, .int .u32 0, .int .u32 (v : Int), .int .i64 (ni : Int), .slice B0 hl d0, .int .u32 0, .int .i64 0, .slice B1 0 d1, .bool false, .int .u32 0, .int .u32 0, .int .i64 0, .int .i64 0, .int .i64 0, .slice B 0 d] 39 (0, 0))) := Lib.hid fun W hW => (hW.block _ HL2.out).trans HX2.out
 have HCK : Hid (∀ W, Below w2.heap.size w2 W → Calls Tryz.prog 27 #[.slice Ak nk ck] W fun e w' => ∃ A m c, e = .returned (.slice A m c) ∧ Hid (m = key.length) ∧ w'.ownsRow W.heap.size 5 1 (.slice A m c) m (bv key) ∧ Below W.heap.size W w') := Lib.hid fun W hW => by
  have hbb : Below w.heap.size w W := HB2.out.trans (hW.mono HB2.out.size)
  have hr : Row W w.heap.size Ak nk (bv key) := by rw [← HKL.out]; exact HKR.out.below hbb
  exact clone_any w.heap.size nk ck Ak key W hr (by have := HK64.out; have := HKL.out; omega) hbb.size
 refine wp_region_noPanic ?_
 refine wp_region_held_drew (S := (fun W => Below (w2.heap.size) w2 W)) (by kernel_rfl) (Below.refl _ _).drew (fun hH0 => ?_)
 have hH0 : Below (w2.heap.size) w2 w2.drew := hH0
 generalize w2.drew = wd3000 at *
 refine wpAnyH_take (i := 0) (oi := _) (v := ?tkv3001) rfl (by kernel_rfl) (by kernel_rfl) (by kernel_rfl) (fun _ _ _ h => h) (Or.inl ⟨by rfl, ?tky3001⟩) hH0 ?tkr3001
 case tky3001 => (intro w' hSw; clear hSw; go_simp; try with_reducible rfl)
 try simp only [Act.put, zqa, zqb, zqc]
 refine wpAnyH_take (i := 2) (oi := _) (v := .agg #[.int .i64 0, .int .i64 0, .int .u32 0, .int .u32 0, .int .u32 (v : Int), .int .i64 (ni : Int), .slice B0 hl d0, .int .u32 0, .int .i64 0, .slice B1 0 d1, .bool false, .int .u32 0, .int .u32 0, .int .i64 0, .int .i64 0, .int .i64 0, .slice B 0 d]) rfl (by kernel_rfl) (by kernel_rfl) (by kernel_rfl) (fun _ _ _ h => h) (yields_row (by rfl) _ (.tmp 8) rfl w1.heap.size rfl _ _ _ _ (fun W hW => HMB.out W hW) Tryz.underlying39 rfl (by kernel_rfl)) hH0 ?tkr3002
 try simp only [Act.put, zqa, zqb, zqc]
 refine wpAnyH_ready (rs := [1]) (by kernel_rfl) (by simp) ?_
 refine AllReadyH.cons (o := _) rfl (fun K hK => ?_) AllReadyH.nil
 go_simp
 refine (HCK.out wd3000 (hH0)).mono ?_
 rintro e' wn3003 ⟨AK, nK, cK, rfl, hn3003, ho3003, hb3003⟩
 obtain rfl : nk = nK := (hn3003.trans HKL.out).symm
 have RK3003 : Hid (RowP wn3003 (fun b => w.heap.size ≤ b) AK nk (bv key)) := Lib.hid ((rowP_own ho3003).imp fun b _ hb => Nat.le_trans HB2.out.size (Nat.le_trans (hH0).size hb.1))
 clear ho3003 hn3003
 go_simp
 have hS3003 : Below (w2.heap.size) w2 wn3003 := (hH0).trans (hb3003.mono (hH0).size)
 refine hK.out _ _ hS3003 (fun hH3003 => ?_)
 have hH3003 : Below (w2.heap.size) w2 wn3003 := hH3003
 clear hK K hS3003
 try simp only [Act.put, zqa, zqb, zqc]
 refine wpAnyH_take (i := 3) (oi := _) (v := ?tkv3004) rfl (by kernel_rfl) (by kernel_rfl) (by kernel_rfl) (fun _ _ _ h => h) (Or.inl ⟨by rfl, ?tky3004⟩) hH3003 ?tkr3004
 case tky3004 => (intro w' hSw; clear hSw; go_simp; try with_reducible rfl)
 try simp only [Act.put, zqa, zqb, zqc]
 refine wpAnyH_ready (rs := [4]) (by kernel_rfl) (by simp) ?_
 refine AllReadyH.cons (o := _) rfl (fun K hK => ?_) AllReadyH.nil
 go_simp
 have hb3005 : Below wn3003.heap.size wn3003 (wn3003.alloc (.cells #[.slice AK nk cK, .int .i64 0, .int .i64 0, .int .u32 0, .int .u32 0, .int .u32 (v : Int), .int .i64 (ni : Int), .slice B0 hl d0, .int .u32 0, .int .i64 0, .slice B1 0 d1, .bool false, .int .u32 0, .int .u32 0, .int .i64 0, .int .i64 0, .int .i64 0, .slice B 0 d, .slice none 0 0, .slice none 0 0, .pointer none] 57)) := (Below.refl _ _).alloc (Nat.le_refl _) _
 have GE3 : Hid (w2.heap.size ≤ wn3003.heap.size) := Lib.hid (hH3003).size
 have RG3 : Hid (RowP (wn3003.alloc (.cells #[.slice AK nk cK, .int .i64 0, .int .i64 0, .int .u32 0, .int .u32 0, .int .u32 (v : Int), .int .i64 (ni : Int), .slice B0 hl d0, .int .u32 0, .int .i64 0, .slice B1 0 d1, .bool false, .int .u32 0, .int .u32 0, .int .i64 0, .int .i64 0, .int .i64 0, .slice B 0 d, .slice none 0 0, .slice none 0 0, .pointer none] 57)) (fun b => w.heap.size ≤ b ∧ b ≠ wn3003.heap.size) AK nk (bv key)) := Lib.hid (((RK3003.out).imp (P' := fun b => w.heap.size ≤ b ∧ b ≠ wn3003.heap.size) fun b hl hb => ⟨hb, Nat.ne_of_lt hl⟩).below hb3005)
 have hS3005 : Below (w2.heap.size) w2 (wn3003.alloc (.cells #[.slice AK nk cK, .int .i64 0, .int .i64 0, .int .u32 0, .int .u32 0, .int .u32 (v : Int), .int .i64 (ni : Int), .slice B0 hl d0, .int .u32 0, .int .i64 0, .slice B1 0 d1, .bool false, .int .u32 0, .int .u32 0, .int .i64 0, .int .i64 0, .int .i64 0, .slice B 0 d, .slice none 0 0, .slice none 0 0, .pointer none] 57)) := (hH3003).trans (hb3005.mono (hH3003).size)
 refine hK.out _ _ hS3005 (fun hH3005 => ?_)
 have hH3005 : Below (w2.heap.size) w2 (wn3003.alloc (.cells #[.slice AK nk cK, .int .i64 0, .int .i64 0, .int .u32 0, .int .u32 0, .int .u32 (v : Int), .int .i64 (ni : Int), .slice B0 hl d0, .int .u32 0, .int .i64 0, .slice B1 0 d1, .bool false, .int .u32 0, .int .u32 0, .int .i64 0, .int .i64 0, .int .i64 0, .slice B 0 d, .slice none 0 0, .slice none 0 0, .pointer none] 57)) := hH3005
 clear hK K hS3005
 try simp only [Act.put, zqa, zqb, zqc]
 refine wpAnyH_take (i := 5) (oi := _) (v := ?tkv3006) rfl (by kernel_rfl) (by kernel_rfl) (by kernel_rfl) (fun _ _ _ h => h) (Or.inl ⟨by rfl, ?tky3006⟩) hH3005 ?tkr3006
 case tky3006 => (intro w' hSw; clear hSw; go_simp; try with_reducible rfl)
 try simp only [Act.put, zqa, zqb, zqc]
 refine wpAnyH_done (by kernel_rfl) ?_ _
 refine NoPanic.normal ?_
 have HG3 := Lib.hid (heap_alloc_new wn3003 (.cells #[.slice AK nk cK, .int .i64 0, .int .i64 0, .int .u32 0, .int .u32 0, .int .u32 (v : Int), .int .i64 (ni : Int), .slice B0 hl d0, .int .u32 0, .int .i64 0, .slice B1 0 d1, .bool false, .int .u32 0, .int .u32 0, .int .i64 0, .int .i64 0, .int .i64 0, .slice B 0 d, .slice none 0 0, .slice none 0 0, .pointer none] 57))
 have HB3 := Lib.hid (show Below w2.heap.size w2 (wn3003.alloc (.cells #[.slice AK nk cK, .int .i64 0, .int .i64 0, .int .u32 0, .int .u32 0, .int .u32 (v : Int), .int .i64 (ni : Int), .slice B0 hl d0, .int .u32 0, .int .i64 0, .slice B1 0 d1, .bool false, .int .u32 0, .int .u32 0, .int .i64 0, .int .i64 0, .int .i64 0, .slice B 0 d, .slice none 0 0, .slice none 0 0, .pointer none] 57)) from hH3005)
 have RK3 := RG3
 have HLG : Hid (wn3003.heap.size < (wn3003.alloc (.cells #[.slice AK nk cK, .int .i64 0, .int .i64 0, .int .u32 0, .int .u32 0, .int .u32 (v : Int), .int .i64 (ni : Int), .slice B0 hl d0, .int .u32 0, .int .i64 0, .slice B1 0 d1, .bool false, .int .u32 0, .int .u32 0, .int .i64 0, .int .i64 0, .int .i64 0, .slice B 0 d, .slice none 0 0, .slice none 0 0, .pointer none] 57)).heap.size ∧ w2.heap.size ≤ wn3003.heap.size) := Lib.hid ⟨by simp, GE3.out⟩
 clear hH3005 RG3 GE3
 generalize (wn3003.alloc (.cells #[.slice AK nk cK, .int .i64 0, .int .i64 0, .int .u32 0, .int .u32 0, .int .u32 (v : Int), .int .i64 (ni : Int), .slice B0 hl d0, .int .u32 0, .int .i64 0, .slice B1 0 d1, .bool false, .int .u32 0, .int .u32 0, .int .i64 0, .int .i64 0, .int .i64 0, .slice B 0 d, .slice none 0 0, .slice none 0 0, .pointer none] 57)) = w3 at *
 obtain ⟨g, hg⟩ : ∃ g, wn3003.heap.size = g := ⟨_, rfl⟩
 rw [hg] at HG3 HLG RK3 ⊢
 clear hg
 have HBW : Hid (Below w.heap.size w w3) := Lib.hid (HB2.out.trans (HB3.out.mono HB2.out.size))
 have HS3 : Hid (IsSt w3 (fun b => w.heap.size ≤ b ∧ b ≠ g) #[.int .i64 0, .int .i64 0, .int .u32 0, .int .u32 0, .int .u32 (v : Int), .int .i64 (ni : Int), .slice B0 hl d0, .int .u32 0, .int .i64 0, .slice B1 0 d1, .bool false, .int .u32 0, .int .u32 0, .int .i64 0, .int .i64 0, .int .i64 0, .slice B 0 d] (Go.Proofs.YtmncpgfdpcckpaaGreatDoor.firstL v ni (Sha.D img))) := Lib.hid ((HS2.out.imp (P' := fun b => w.heap.size ≤ b ∧ b ≠ g) fun b hl hb => ⟨hb, by have := HLG.out.2; omega⟩).below HB3.out)
 have HM3 := Lib.hid (HMB.out w3 HB3.out)
 have HNG : Hid (w1.heap.size ≠ g) := Lib.hid (by have := HL2.out; have := HLG.out.2; omega)
 have HF3 : Hid (∀ W, FrG w3 g W → W.cell? ⟨w1.heap.size, 0, none⟩ = some (.int .i64 0)) := Lib.hid fun W hW => cell_of_row W w1.heap.size 0 _ _ (0, 0) (FrG.row hW HM3.out HNG.out)
 have HWG : Hid (w.heap.size ≤ g) := Lib.hid (by have := HLG.out.2; have := HB2.out.size; omega)
 have HCI : Hid (∀ W, FrG w3 g W → Calls Tryz.prog 27 #[.slice Ai ni ci] W fun e w' => ∃ A m c, e = .returned (.slice A m c) ∧ Hid (m = img.length) ∧ w'.ownsRow W.heap.size 5 1 (.slice A m c) m (bv img) ∧ Below W.heap.size W w') := Lib.hid fun W hW => by
  have hbb : Below w.heap.size w W := HBW.out.trans (Fr.below hW (fun b hb => by rw [hb]; exact HWG.out) HBW.out.size)
  have hr : Row W w.heap.size Ai ni (bv img) := by rw [← HIL.out]; exact HIR.out.below hbb
  exact clone_any w.heap.size ni ci Ai img W hr (by have := HI512.out; have := HIL.out; omega) hbb.size
 have HBD : Hid (Below w3.heap.size w3 w3.drew) := Lib.hid (Below.refl _ _).drew
 clear HS2 HMB HCK HX2 HM3 HNG HL2
 go_upto_region 5 with fail
 refine wp_region_noPanic ?_
 refine wp_region_held_drew (S := (fun W => FrG w3 g W)) (by kernel_rfl) (Fr.of_below (Below.refl _ _).drew) (fun hH0 => ?_)
 have hH0 : FrG w3 g w3.drew := hH0
 generalize w3.drew = wd5000 at *
 refine wpAnyH_take (i := 0) (oi := _) (v := ?tkv5001) rfl (by kernel_rfl) (by kernel_rfl) (by kernel_rfl) (fun _ _ _ h => h) (Or.inl ⟨by rfl, ?tky5001⟩) hH0 ?tkr5001
 case tky5001 => (intro w' hSw; clear hSw; go_simp; try with_reducible rfl)
 try simp only [Act.put, zqa, zqb, zqc]
 refine wpAnyH_take (i := 1) (oi := _) (v := ?tkv5002) rfl (by kernel_rfl) (by kernel_rfl) (by kernel_rfl) (fun _ _ _ h => h) (Or.inl ⟨by rfl, ?tky5002⟩) hH0 ?tkr5002
 case tky5002 => (intro w' hSw; clear hSw; go_simp; try with_reducible rfl)
 try simp only [Act.put, zqa, zqb, zqc]
 refine wpAnyH_take (i := 2) (oi := _) (v := ?tkv5003) rfl (by kernel_rfl) (by kernel_rfl) (by kernel_rfl) (fun _ _ _ h => h) (Or.inl ⟨by rfl, ?tky5003⟩) hH0 ?tkr5003
 case tky5003 => (intro w' hSw; have z0 := HF3.out _ hSw; clear hSw; go_simp; try with_reducible rfl)
 try simp only [Act.put, zqa, zqb, zqc]
 refine wpAnyH_take (i := 3) (oi := _) (v := ?tkv5004) rfl (by kernel_rfl) (by kernel_rfl) (by kernel_rfl) (fun _ _ _ h => h) (Or.inl ⟨by rfl, ?tky5004⟩) hH0 ?tkr5004
 case tky5004 => (intro w' hSw; clear hSw; go_simp; try with_reducible rfl)
 try simp only [Act.put, zqa, zqb, zqc]
 refine wpAnyH_take (i := 5) (oi := _) (v := ?tkv5005) rfl (by kernel_rfl) (by kernel_rfl) (by kernel_rfl) (fun _ _ _ h => h) (Or.inl ⟨by rfl, ?tky5005⟩) hH0 ?tkr5005
 case tky5005 => (intro w' hSw; clear hSw; go_simp; try with_reducible rfl)
 try simp only [Act.put, zqa, zqb, zqc]
 refine wpAnyH_take (i := 6) (oi := _) (v := ?tkv5006) rfl (by kernel_rfl) (by kernel_rfl) (by kernel_rfl) (fun _ _ _ h => h) (Or.inl ⟨by rfl, ?tky5006⟩) hH0 ?tkr5006
 case tky5006 => (intro w' hSw; clear hSw; go_simp; try with_reducible rfl)
 try simp only [Act.put, zqa, zqb, zqc]
 refine wpAnyH_ready (rs := [4]) (by kernel_rfl) (by simp) ?_
 refine AllReadyH.cons (o := _) rfl (fun K hK => ?_) AllReadyH.nil
 go_simp
 refine (HCI.out wd5000 (hH0)).mono ?_
 rintro e' wn5007 ⟨AI, nI, cI, rfl, hn5007, ho5007, hb5007⟩
 obtain rfl : ni = nI := (hn5007.trans HIL.out).symm
 have RI5007 : Hid (RowP wn5007 (fun b => w.heap.size ≤ b ∧ b ≠ g) AI ni (bv img)) := Lib.hid ((rowP_own ho5007).imp fun b _ hb => ⟨by have := HBW.out.size; have := HBD.out.size; omega, by have := HLG.out.1; have := HBD.out.size; omega⟩)
 have HG5007 : Hid (wn5007.heap[g]? = _) := Lib.hid ((hb5007.block g (by have := HLG.out.1; have := HBD.out.size; omega)).trans ((HBD.out.block g HLG.out.1).trans HG3.out))
 have HBI : Hid (Below w3.heap.size w3 wn5007) := Lib.hid (HBD.out.trans (hb5007.mono HBD.out.size))
 clear ho5007 hn5007
 go_simp
 have hS5007 : FrG w3 g wn5007 := Fr.trans (hH0) (Fr.of_below hb5007) (fun _ _ h => h)
 refine hK.out _ _ hS5007 (fun hH5007 => ?_)
 have hH5007 : FrG w3 g wn5007 := hH5007
 clear hK K hS5007
 try simp only [Act.put, zqa, zqb, zqc]
 refine wpAnyH_take (i := 7) (oi := _) (v := ?tkv5008) rfl (by kernel_rfl) (by kernel_rfl) (by kernel_rfl) (fun _ _ _ h => h) (Or.inl ⟨by rfl, ?tky5008⟩) hH5007 ?tkr5008
 case tky5008 => (intro w' hSw; clear hSw; go_simp; try with_reducible rfl)
 try simp only [Act.put, zqa, zqb, zqc]
 refine wpAnyH_ready (rs := [8]) (by kernel_rfl) (by simp) ?_
 refine AllReadyH.cons (o := _) rfl (fun K hK => ?_) AllReadyH.nil
 have cc5009 := cell_of_row wn5007 g 18 _ _ (0, 0) HG5007.out
 have cf5009 := frozen_of_row wn5007 g 18 _ _ HG5007.out
 go_simp
 have hS5009 : FrG w3 g (wn5007.setCell ⟨g, 18, none⟩ (.slice AI ni cI)) := FrG.cell (hH5007) 18 _
 refine hK.out _ _ hS5009 (fun hH5009 => ?_)
 have hH5009 : FrG w3 g (wn5007.setCell ⟨g, 18, none⟩ (.slice AI ni cI)) := hH5009
 clear hK K hS5009
 refine wpAnyH_done (by kernel_rfl) ?_ _
 refine NoPanic.normal ?_
 go_wp2_with fail
 go_ret2
 have hrow := heap_setCell_same wn5007 g 18 _ _ (.slice AI ni cI) HG5007.out
 have hbx : Bx (wn5007.setCell ⟨g, 18, none⟩ (.slice AI ni cI)) g (.slice AK nk cK) #[.int .i64 0, .int .i64 0, .int .u32 0, .int .u32 0, .int .u32 (v : Int), .int .i64 (ni : Int), .slice B0 hl d0, .int .u32 0, .int .i64 0, .slice B1 0 d1, .bool false, .int .u32 0, .int .u32 0, .int .i64 0, .int .i64 0, .int .i64 0, .slice B 0 d] (.slice AI ni cI) (.slice none 0 0) (.pointer none) := bx_of_row (cs := #[.int .i64 0, .int .i64 0, .int .u32 0, .int .u32 0, .int .u32 (v : Int), .int .i64 (ni : Int), .slice B0 hl d0, .int .u32 0, .int .i64 0, .slice B1 0 d1, .bool false, .int .u32 0, .int .u32 0, .int .i64 0, .int .i64 0, .int .i64 0, .slice B 0 d]) rfl hrow
 have hfr : Fr wn5007 (wn5007.setCell ⟨g, 18, none⟩ (.slice AI ni cI)) (fun b => b = g) := fr_setCell _ g 18 _ (F := fun b => b = g) rfl
 have hbw : Below w.heap.size w wn5007 := HBW.out.trans (HBI.out.mono HBW.out.size)
 have hz := hfr.size
 have hlt : g < wn5007.heap.size := by have := HLG.out.1; have := HBI.out.size; omega
 have hwg : w.heap.size ≤ g := by have := HLG.out.2; have := HB2.out.size; omega
 have hi : ∀ b, b < w3.heap.size → (w.heap.size ≤ b ∧ b ≠ g) → (w.heap.size ≤ b ∧ b ≠ g ∧ b < wn5007.heap.size) := fun b hl hb => ⟨hb.1, hb.2, by have := HBI.out.size; omega⟩
 have kG : ∀ b, (w.heap.size ≤ b ∧ b ≠ g ∧ b < wn5007.heap.size) → b < wn5007.heap.size → (wn5007.setCell ⟨g, 18, none⟩ (.slice AI ni cI)).heap[b]? = wn5007.heap[b]? := fun b hb hl => hfr.block b hl hb.2.1
 have s3 := (((HS3.out.imp (P' := fun b => w.heap.size ≤ b ∧ b ≠ g) fun b hl hb => hb).imp hi).below HBI.out).keep hz kG
 have k3 := (((RK3.out.imp (P' := fun b => w.heap.size ≤ b ∧ b ≠ g ∧ b < wn5007.heap.size) fun b hl hb => ⟨hb.1, hb.2, by have := HBI.out.size; omega⟩)).below HBI.out).keep hz kG
 have i3 := (RI5007.out.imp (P' := fun b => w.heap.size ≤ b ∧ b ≠ g ∧ b < wn5007.heap.size) fun b hl hb => ⟨hb.1, hb.2, hl⟩).keep hz kG
 refine ⟨g, rfl, Lib.hid ⟨AK, cK, #[.int .i64 0, .int .i64 0, .int .u32 0, .int .u32 0, .int .u32 (v : Int), .int .i64 (ni : Int), .slice B0 hl d0, .int .u32 0, .int .i64 0, .slice B1 0 d1, .bool false, .int .u32 0, .int .u32 0, .int .i64 0, .int .i64 0, .int .i64 0, .slice B 0 d], AI, cI, none, 0, .pointer none, fun b => w.heap.size ≤ b ∧ b ≠ g ∧ b < wn5007.heap.size, fun _ => False, ⟨hwg, by omega⟩, ?_, s3, ?_, ?_, RowP.nil _ _ _, rfl, fun b hb => ⟨⟨hb.1, by omega⟩, hb.2.1, fun h => h, by omega⟩, fun _ h => h.elim⟩, Lib.hid (hfr.below (F := fun b => b = g) (fun b hb => by rw [hb]; exact hwg) hbw.size |> fun h => hbw.trans h)⟩
 ·show Bx (wn5007.setCell ⟨g, 18, none⟩ (.slice AI ni cI)) g (.slice AK key.length cK) #[.int .i64 0, .int .i64 0, .int .u32 0, .int .u32 0, .int .u32 (v : Int), .int .i64 (ni : Int), .slice B0 hl d0, .int .u32 0, .int .i64 0, .slice B1 0 d1, .bool false, .int .u32 0, .int .u32 0, .int .i64 0, .int .i64 0, .int .i64 0, .slice B 0 d] (.slice AI img.length cI) (.slice none 0 0) (.pointer none)
  rw [HKL.out, HIL.out]
  exact hbx
 ·show RowP (wn5007.setCell ⟨g, 18, none⟩ (.slice AI ni cI)) _ AK key.length (bv key)
  rw [HKL.out]
  exact k3
 ·show RowP (wn5007.setCell ⟨g, 18, none⟩ (.slice AI ni cI)) _ AI img.length (bv img)
  rw [HIL.out]
  exact i3
end Go.Proofs.YtmncpgfdpcckpaaGreatDoor.Mo
