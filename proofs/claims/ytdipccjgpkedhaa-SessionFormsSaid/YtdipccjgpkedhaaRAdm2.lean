/- The reference's Admit: by contract, of states as data. -/
import Derived.Test.YtdipccjgpkedhaaRAdm
namespace Go.Proofs.Ytdipccjgpkedhaa
open Go.RowKit
def RAdm (L : LSt) (M : LMan) (w : World) (e : Ending) (w' : World) : Prop := ∃ ds, e = .returned (.tuple #[.agg ds, .int .i64 (L.admitR M)]) ∧ Hid (IsSt w' (fun _ => True) ds (if L.admitR M = 0 then L.admitted M else LSt.zero)) ∧ Hid (Below w.heap.size w w')
theorem radm_no {L : LSt} {M : LMan} {w w' : World} {e : Ending} {r : Int} (hr : L.admitR M = r) (h0 : r ≠ 0) (h : ∃ ds, e = .returned (.tuple #[.agg ds, .int .i64 r]) ∧ Hid (IsSt w' (fun _ => True) ds LSt.zero) ∧ Hid (Below w.heap.size w w')) : RAdm L M w e w' := by
  unfold RAdm
  rw [hr, if_neg h0]
  exact h
theorem radm_yes {L : LSt} {M : LMan} {w w' : World} {e : Ending} (hr : L.admitR M = 0) (h : ∃ ds, e = .returned (.tuple #[.agg ds, .int .i64 0]) ∧ Hid (IsSt w' (fun _ => True) ds (L.admitted M)) ∧ Hid (Below w.heap.size w w')) : RAdm L M w e w' := by
  unfold RAdm
  rw [hr, if_pos rfl]
  exact h
theorem set8a {w : World} {g : Nat} {t : TypeId} {a0 a1 a2 a3 a4 a5 a6 a7 a8 a9 a10 a11 a12 a13 a14 a15 a16 : Value} (h : w.heap[g]? = some (.cells #[a0, a1, a2, a3, a4, a5, a6, a7, a8, a9, a10, a11, a12, a13, a14, a15, a16] t (0, 0))) (b0 b1 b2 b3 b4 b5 b6 b7 : Value) :
    ((((((((w.setCell ⟨g, 3, none⟩ b7).setCell ⟨g, 10, none⟩ b0).setCell ⟨g, 11, none⟩ b1).setCell ⟨g, 12, none⟩ b2).setCell ⟨g, 13, none⟩ b3).setCell ⟨g, 14, none⟩ b4).setCell ⟨g, 15, none⟩ b5).setCell ⟨g, 16, none⟩ b6).heap[g]? = some (.cells #[a0, a1, a2, b7, a4, a5, a6, a7, a8, a9, b0, b1, b2, b3, b4, b5, b6] t (0, 0)) :=
  set7 (heap_setCell_same _ g 3 _ _ b7 h) b0 b1 b2 b3 b4 b5 b6
theorem keep8a {w : World} {g b : Nat} (h : b ≠ g) (b0 b1 b2 b3 b4 b5 b6 b7 : Value) :
    ((((((((w.setCell ⟨g, 3, none⟩ b7).setCell ⟨g, 10, none⟩ b0).setCell ⟨g, 11, none⟩ b1).setCell ⟨g, 12, none⟩ b2).setCell ⟨g, 13, none⟩ b3).setCell ⟨g, 14, none⟩ b4).setCell ⟨g, 15, none⟩ b5).setCell ⟨g, 16, none⟩ b6).heap[b]? = w.heap[b]? := by
  rw [heap_setCell_other _ _ _ _ h, heap_setCell_other _ _ _ _ h, heap_setCell_other _ _ _ _ h, heap_setCell_other _ _ _ _ h, heap_setCell_other _ _ _ _ h, heap_setCell_other _ _ _ _ h, heap_setCell_other _ _ _ _ h, heap_setCell_other _ _ _ _ h]
set_option maxRecDepth 100000 in
set_option maxHeartbeats 3200000 in
theorem radmit_a {w : World} {P P' : Nat → Prop} {cs ms : Array Value} {L : LSt} {M : LMan} (hs : IsSt w P cs L) (hm : IsMan w P' ms M) (hmay : (L.may && M.may) = false) :
    Calls Try.prog 17 #[.agg cs, .agg ms] w (RAdm L M w) := by
  have e0 := ((((((Env.start w).addSt hs).addMan hm).alloc cs 30).alloc ms 28).alloc #[.int .i64 0, .int .i64 0, .int .u32 0, .int .u32 0, .int .u32 0, .int .i64 0, .slice none 0 0, .int .u32 0, .int .i64 0, .slice none 0 0, .bool false, .int .u32 0, .int .u32 0, .int .i64 0, .int .i64 0, .int .i64 0, .slice none 0 0] 30).alloc #[.int .i64 0, .int .i64 0, .int .u32 0, .int .u32 0, .int .u32 0, .int .i64 0, .slice none 0 0, .int .u32 0, .int .i64 0, .slice none 0 0, .bool false, .int .u32 0, .int .u32 0, .int .i64 0, .int .i64 0, .int .i64 0, .slice none 0 0] 30
  rw [show (((w.alloc (.cells cs 30)).alloc (.cells ms 28)).alloc (.cells #[.int .i64 0, .int .i64 0, .int .u32 0, .int .u32 0, .int .u32 0, .int .i64 0, .slice none 0 0, .int .u32 0, .int .i64 0, .slice none 0 0, .bool false, .int .u32 0, .int .u32 0, .int .i64 0, .int .i64 0, .int .i64 0, .slice none 0 0] 30)).heap.size = w.heap.size + 3 by simp, show ((w.alloc (.cells cs 30)).alloc (.cells ms 28)).heap.size = w.heap.size + 2 by simp, show (w.alloc (.cells cs 30)).heap.size = w.heap.size + 1 by simp] at e0
  have E0 := Lib.hid e0
  have IN := Lib.hid hs.inf
  have IM := Lib.hid hm.inf
  have IZ : Hid ((Try.prog.info? 30).map (·.size) = some (#[.int .i64 0, .int .i64 0, .int .u32 0, .int .u32 0, .int .u32 0, .int .i64 0, .slice none 0 0, .int .u32 0, .int .i64 0, .slice none 0 0, .bool false, .int .u32 0, .int .u32 0, .int .i64 0, .int .i64 0, .int .i64 0, .slice none 0 0] : Array Value).size) := Lib.hid (by kernel_rfl)
  have OZ : Hid ((#[.int .i64 0, .int .i64 0, .int .u32 0, .int .u32 0, .int .u32 0, .int .i64 0, .slice none 0 0, .int .u32 0, .int .i64 0, .slice none 0 0, .bool false, .int .u32 0, .int .u32 0, .int .i64 0, .int .i64 0, .int .i64 0, .slice none 0 0] : Array Value).all (·.oneCell') = true) := Lib.hid (by kernel_rfl)
  have ZST : Hid (∀ W, IsSt W (fun _ => True) #[.int .i64 0, .int .i64 0, .int .u32 0, .int .u32 0, .int .u32 0, .int .i64 0, .slice none 0 0, .int .u32 0, .int .i64 0, .slice none 0 0, .bool false, .int .u32 0, .int .u32 0, .int .i64 0, .int .i64 0, .int .i64 0, .slice none 0 0] LSt.zero) := Lib.hid (fun W => zero_is W _)
  have ONE := Lib.hid hs.one
  have CS1 := Lib.hid hs.c1
  have CS3 := Lib.hid hs.c3
  have CS10 := Lib.hid hs.c10
  have HMM := Lib.hid hm
  obtain ⟨UA0, Uc0, UA1, Uc1, UA, Uc, hcs, u0, u1, u2⟩ := hs
  obtain ⟨MA, mc, hmc, hmr⟩ := hm
  have ADM : Hid (IsSt w (fun _ => True) ((L.admitted M).cells UA0 Uc0 UA1 Uc1 MA mc) (L.admitted M)) := Lib.hid ⟨UA0, Uc0, UA1, Uc1, MA, mc, rfl, u0.imp (fun _ _ _ => trivial), u1.imp (fun _ _ _ => trivial), hmr.imp (fun _ _ _ => trivial)⟩
  have HCS := Lib.hid hcs
  have HMC := Lib.hid hmc
  have R2 := Lib.hid u2
  have HM1 : Hid (ms[1]? = some (.int .u32 (M.v : Int))) := Lib.hid (by rw [hmc]; rfl)
  clear e0 hmc hmr hcs u0 u1 u2
  go_enter Try.func17, Try.ntmps17
  go_upto_region 2 with fail
  generalize ((((w.alloc (.cells cs 30)).alloc (.cells ms 28)).alloc (.cells #[.int .i64 0, .int .i64 0, .int .u32 0, .int .u32 0, .int .u32 0, .int .i64 0, .slice none 0 0, .int .u32 0, .int .i64 0, .slice none 0 0, .bool false, .int .u32 0, .int .u32 0, .int .i64 0, .int .i64 0, .int .i64 0, .slice none 0 0] 30)).alloc (.cells #[.int .i64 0, .int .i64 0, .int .u32 0, .int .u32 0, .int .u32 0, .int .i64 0, .slice none 0 0, .int .u32 0, .int .i64 0, .slice none 0 0, .bool false, .int .u32 0, .int .u32 0, .int .i64 0, .int .i64 0, .int .i64 0, .slice none 0 0] 30)) = w0 at *
  generalize (#[.int .i64 0, .int .i64 0, .int .u32 0, .int .u32 0, .int .u32 0, .int .i64 0, .slice none 0 0, .int .u32 0, .int .i64 0, .slice none 0 0, .bool false, .int .u32 0, .int .u32 0, .int .i64 0, .int .i64 0, .int .i64 0, .slice none 0 0] : Array Value) = zc at *
  go_wp2_with ((with_reducible show wpList _ _ _ _ _ _); refine wpList_load_row (o := ⟨some 9, _, _, _, _, _⟩) rfl _ (.tmp 2) rfl w.heap.size rfl _ _ _ _ (E0.out.bx _ _ _ (.tail _ (.tail _ (.tail _ (.head _))))) Try.underlying30 rfl IN.out ?_)
  refine (rmayS (E0.out.st _ _ (.head _))).mono ?_
  rintro e w1 ⟨rfl, hb1⟩
  have E1 := Lib.hid (E0.out.below hb1)
  clear hb1 E0
  have HR1 : Hid (L.admitR M = 1) := Lib.hid (by unfold LSt.admitR; rw [if_pos hmay])
  cases hm1 : L.may with
  | false =>
    go_wp2_with (first
      | ((with_reducible show wpList _ _ _ _ _ _); refine wpList_load_row (o := ⟨some 17, _, _, _, _, _⟩) rfl _ (.tmp 6) rfl (w.heap.size + 3) rfl _ _ _ _ (E1.out.bx _ _ _ (.head _)) Try.underlying30 rfl IZ.out ?_)
      | ((with_reducible show wpList _ _ _ _ _ _); refine wpList_store_row rfl _ (.tmp 4) (.tmp 17) rfl (w.heap.size + 2) zc rfl rfl _ _ (E1.out.bx _ _ _ (.tail _ (.head _))) IZ.out rfl OZ.out ?_))
    have hrow := setRow_heap _ _ _ zc _ _ (E1.out.bx _ _ _ (.tail _ (.head _)))
    refine bodyPost_ret (results_cell_tmp_row rfl _ _ (w.heap.size + 2) _ _ (0, 0) _ rfl hrow Try.underlying30 rfl IZ.out) rfl ?_
    exact radm_no HR1.out (by decide) ⟨_, rfl, Lib.hid (ZST.out _), Lib.hid (below_setRow2 E1.out.b (by omega) _)⟩
  | true =>
    rw [hm1, Bool.true_and] at hmay
    go_wp2_with ((with_reducible show wpList _ _ _ _ _ _); refine wpList_load_rowG (o := ⟨some 13, _, _, _, _, _⟩) (by rfl) _ (.tmp 3) rfl (w.heap.size + 1) rfl _ _ _ _ (E1.out.bx _ _ _ (.tail _ (.tail _ (.head _)))) Try.underlying28 rfl IM.out ?_)
    refine (rmanMayS (E1.out.mn _ _ (.head _))).mono ?_
    rintro e w2 ⟨rfl, hb2⟩
    have E2 := Lib.hid (E1.out.below hb2)
    rw [hmay]
    clear hb2 E1 hmay hm1
    go_wp2_with (first
      | ((with_reducible show wpList _ _ _ _ _ _); refine wpList_load_row (o := ⟨some 17, _, _, _, _, _⟩) rfl _ (.tmp 6) rfl (w.heap.size + 3) rfl _ _ _ _ (E2.out.bx _ _ _ (.head _)) Try.underlying30 rfl IZ.out ?_)
      | ((with_reducible show wpList _ _ _ _ _ _); refine wpList_store_row rfl _ (.tmp 4) (.tmp 17) rfl (w.heap.size + 2) zc rfl rfl _ _ (E2.out.bx _ _ _ (.tail _ (.head _))) IZ.out rfl OZ.out ?_))
    have hrow := setRow_heap _ _ _ zc _ _ (E2.out.bx _ _ _ (.tail _ (.head _)))
    refine bodyPost_ret (results_cell_tmp_row rfl _ _ (w.heap.size + 2) _ _ (0, 0) _ rfl hrow Try.underlying30 rfl IZ.out) rfl ?_
    exact radm_no HR1.out (by decide) ⟨_, rfl, Lib.hid (ZST.out _), Lib.hid (below_setRow2 E2.out.b (by omega) _)⟩
end Go.Proofs.Ytdipccjgpkedhaa
