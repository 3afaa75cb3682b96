/- The reference's Admit: on trial. -/
import Derived.Test.YtdipccjgpkedhaaRAdm2
namespace Go.Proofs.Ytdipccjgpkedhaa
open Go.RowKit
set_option maxRecDepth 100000 in
set_option maxHeartbeats 3200000 in
theorem radmit_P12 {w : World} {P P' : Nat → Prop} {cs ms : Array Value} {L : LSt} {M : LMan} (hs : IsSt w P cs L) (hm : IsMan w P' ms M) (hmay : ¬ (L.may && M.may) = false) (ht : ¬ L.trial = 0) :
    Calls Try.prog 17 #[.agg cs, .agg ms] w (RAdm L M w) := by
  have e0 := ((((((Env.start w).addSt hs).addMan hm).alloc cs 30).alloc ms 28).alloc #[.int .i64 0, .int .i64 0, .int .u32 0, .int .u32 0, .int .u32 0, .int .i64 0, .slice none 0 0, .int .u32 0, .int .i64 0, .slice none 0 0, .bool false, .int .u32 0, .int .u32 0, .int .i64 0, .int .i64 0, .int .i64 0, .slice none 0 0] 30).alloc #[.int .i64 0, .int .i64 0, .int .u32 0, .int .u32 0, .int .u32 0, .int .i64 0, .slice none 0 0, .int .u32 0, .int .i64 0, .slice none 0 0, .bool false, .int .u32 0, .int .u32 0, .int .i64 0, .int .i64 0, .int .i64 0, .slice none 0 0] 30
  rw [show (((w.alloc (.cells cs 30)).alloc (.cells ms 28)).alloc (.cells #[.int .i64 0, .int .i64 0, .int .u32 0, .int .u32 0, .int .u32 0, .int .i64 0, .slice none 0 0, .int .u32 0, .int .i64 0, .slice none 0 0, .bool false, .int .u32 0, .int .u32 0, .int .i64 0, .int .i64 0, .int .i64 0, .slice none 0 0] 30)).heap.size = w.heap.size + 3 by simp, show ((w.alloc (.cells cs 30)).alloc (.cells ms 28)).heap.size = w.heap.size + 2 by simp, show (w.alloc (.cells cs 30)).heap.size = w.heap.size + 1 by simp] at e0
  have E0 := Lib.hid e0
  have IN := Lib.hid hs.inf
  have IM := Lib.hid hm.inf
  have IZ : Hid ((Try.prog.info? 30).map (·.size) = some (#[.int .i64 0, .int .i64 0, .int .u32 0, .int .u32 0, .int .u32 0, .int .i64 0, .slice none 0 0, .int .u32 0, .int .i64 0, .slice none 0 0, .bool false, .int .u32 0, .int .u32 0, .int .i64 0, .int .i64 0, .int .i64 0, .slice none 0 0] : Array Value).size) := Lib.hid (by kernel_rfl)
  have OZ : Hid ((#[.int .i64 0, .int .i64 0, .int .u32 0, .int .u32 0, .int .u32 0, .int .i64 0, .slice none 0 0, .int .u32 0, .int .i64 0, .slice none 0 0, .bool false, .int .u32 0, .int .u32 0, .int .i64 0, .int .i64 0, .int .i64 0, .slice none 0 0] : Array Value).all (·.oneCell') = true) := Lib.hid (by kernel_rfl)
  have ZST : Hid (∀ W, IsSt W (fun _ => True) #[.int .i64 0, .int .i64 0, .int .u32 0, .int .u32 0, .int .u32 0, .int .i64 0, .slice none 0 0, .int .u32 0, .int .i64 0, .slice none 0 0, .bool false, .int .u32 0, .int .u32 0, .int .i64 0, .int .i64 0, .int .i64 0, .slice none 0 0] LSt.zero) := Lib.hid (fun W => zero_is W _)
  have ONE := Lib.hid hs.one
  have CS1 := Lib.hid hs.c1
  have CS3 := Lib.hid hs.c3
  have CS10 := Lib.hid hs.c10
  have HMM := Lib.hid hm
  obtain ⟨UA0, Uc0, UA1, Uc1, UA, Uc, hcs, u0, u1, u2⟩ := hs
  obtain ⟨MA, mc, hmc, hmr⟩ := hm
  have ADM : Hid (IsSt w (fun _ => True) ((L.admitted M).cells UA0 Uc0 UA1 Uc1 MA mc) (L.admitted M)) := Lib.hid ⟨UA0, Uc0, UA1, Uc1, MA, mc, rfl, u0.imp (fun _ _ _ => trivial), u1.imp (fun _ _ _ => trivial), hmr.imp (fun _ _ _ => trivial)⟩
  have HCS := Lib.hid hcs
  have HMC := Lib.hid hmc
  have R2 := Lib.hid u2
  have HM1 : Hid (ms[1]? = some (.int .u32 (M.v : Int))) := Lib.hid (by rw [hmc]; rfl)
  clear e0 hmc hmr hcs u0 u1 u2
  go_enter Try.func17, Try.ntmps17
  go_upto_region 2 with fail
  generalize ((((w.alloc (.cells cs 30)).alloc (.cells ms 28)).alloc (.cells #[.int .i64 0, .int .i64 0, .int .u32 0, .int .u32 0, .int .u32 0, .int .i64 0, .slice none 0 0, .int .u32 0, .int .i64 0, .slice none 0 0, .bool false, .int .u32 0, .int .u32 0, .int .i64 0, .int .i64 0, .int .i64 0, .slice none 0 0] 30)).alloc (.cells #[.int .i64 0, .int .i64 0, .int .u32 0, .int .u32 0, .int .u32 0, .int .i64 0, .slice none 0 0, .int .u32 0, .int .i64 0, .slice none 0 0, .bool false, .int .u32 0, .int .u32 0, .int .i64 0, .int .i64 0, .int .i64 0, .slice none 0 0] 30)) = w0 at *
  generalize (#[.int .i64 0, .int .i64 0, .int .u32 0, .int .u32 0, .int .u32 0, .int .i64 0, .slice none 0 0, .int .u32 0, .int .i64 0, .slice none 0 0, .bool false, .int .u32 0, .int .u32 0, .int .i64 0, .int .i64 0, .int .i64 0, .slice none 0 0] : Array Value) = zc at *
  go_wp2_with ((with_reducible show wpList _ _ _ _ _ _); refine wpList_load_row (o := ⟨some 9, _, _, _, _, _⟩) rfl _ (.tmp 2) rfl w.heap.size rfl _ _ _ _ (E0.out.bx _ _ _ (.tail _ (.tail _ (.tail _ (.head _))))) Try.underlying30 rfl IN.out ?_)
  refine (rmayS (E0.out.st _ _ (.head _))).mono ?_
  rintro e w1 ⟨rfl, hb1⟩
  have E1 := Lib.hid (E0.out.below hb1)
  clear hb1 E0
  rw [Bool.not_eq_false, Bool.and_eq_true] at hmay
  obtain ⟨hm1, hm2⟩ := hmay
  have HAND : Hid (¬ (L.may && M.may) = false) := Lib.hid (by simp [hm1, hm2])
  rw [hm1]
  go_wp2_with ((with_reducible show wpList _ _ _ _ _ _); refine wpList_load_rowG (o := ⟨some 13, _, _, _, _, _⟩) (by rfl) _ (.tmp 3) rfl (w.heap.size + 1) rfl _ _ _ _ (E1.out.bx _ _ _ (.tail _ (.tail _ (.head _)))) Try.underlying28 rfl IM.out ?_)
  refine (rmanMayS (E1.out.mn _ _ (.head _))).mono ?_
  rintro e w2 ⟨rfl, hb2⟩
  have E2 := Lib.hid (E1.out.below hb2)
  rw [hm2]
  clear hb2 E1 hm1 hm2
  have t1 := (E2.out.cell (.tail _ (.tail _ (.tail _ (.head _)))) 1).trans CS1.out
  have HR2 : Hid (L.admitR M = 12) := Lib.hid (by unfold LSt.admitR; rw [if_neg HAND.out, if_pos ht])
  have htb : (L.trial != 0) = true := by simp [ht]
  clear ht
  go_wp2_with (first
    | ((with_reducible show wpList _ _ _ _ _ _); refine wpList_load_row (o := ⟨some 22, _, _, _, _, _⟩) rfl _ (.tmp 6) rfl (w.heap.size + 3) rfl _ _ _ _ (E2.out.bx _ _ _ (.head _)) Try.underlying30 rfl IZ.out ?_)
    | ((with_reducible show wpList _ _ _ _ _ _); refine wpList_store_row rfl _ (.tmp 4) (.tmp 22) rfl (w.heap.size + 2) zc rfl rfl _ _ (E2.out.bx _ _ _ (.tail _ (.head _))) IZ.out rfl OZ.out ?_))
  have hrow := setRow_heap _ _ _ zc _ _ (E2.out.bx _ _ _ (.tail _ (.head _)))
  refine bodyPost_ret (results_cell_tmp_row rfl _ _ (w.heap.size + 2) _ _ (0, 0) _ rfl hrow Try.underlying30 rfl IZ.out) rfl ?_
  exact radm_no HR2.out (by decide) ⟨_, rfl, Lib.hid (ZST.out _), Lib.hid (below_setRow2 E2.out.b (by omega) _)⟩
end Go.Proofs.Ytdipccjgpkedhaa
