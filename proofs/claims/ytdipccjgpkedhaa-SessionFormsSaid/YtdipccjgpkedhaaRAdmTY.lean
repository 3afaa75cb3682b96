/- The reference's Admit: a session, admitted. -/
import Derived.Test.YtdipccjgpkedhaaRAdm2
namespace Go.Proofs.Ytdipccjgpkedhaa
open Go.RowKit
set_option maxRecDepth 100000 in
set_option maxHeartbeats 3200000 in
theorem radmit_TY {w : World} {P P' : Nat → Prop} {cs ms : Array Value} {L : LSt} {M : LMan} (hs : IsSt w P cs L) (hm : IsMan w P' ms M) (hmay : ¬ (L.may && M.may) = false) (ht : L.trial = 0) (hon : L.on = true) (hq : L.m.eqb M = false) (hnw : L.newer M.v = true) (hg : ¬ 4294967294 ≤ L.gen) :
    Calls Try.prog 17 #[.agg cs, .agg ms] w (RAdm L M w) := by
  have e0 := ((((((Env.start w).addSt hs).addMan hm).alloc cs 30).alloc ms 28).alloc #[.int .i64 0, .int .i64 0, .int .u32 0, .int .u32 0, .int .u32 0, .int .i64 0, .slice none 0 0, .int .u32 0, .int .i64 0, .slice none 0 0, .bool false, .int .u32 0, .int .u32 0, .int .i64 0, .int .i64 0, .int .i64 0, .slice none 0 0] 30).alloc #[.int .i64 0, .int .i64 0, .int .u32 0, .int .u32 0, .int .u32 0, .int .i64 0, .slice none 0 0, .int .u32 0, .int .i64 0, .slice none 0 0, .bool false, .int .u32 0, .int .u32 0, .int .i64 0, .int .i64 0, .int .i64 0, .slice none 0 0] 30
  rw [show (((w.alloc (.cells cs 30)).alloc (.cells ms 28)).alloc (.cells #[.int .i64 0, .int .i64 0, .int .u32 0, .int .u32 0, .int .u32 0, .int .i64 0, .slice none 0 0, .int .u32 0, .int .i64 0, .slice none 0 0, .bool false, .int .u32 0, .int .u32 0, .int .i64 0, .int .i64 0, .int .i64 0, .slice none 0 0] 30)).heap.size = w.heap.size + 3 by simp, show ((w.alloc (.cells cs 30)).alloc (.cells ms 28)).heap.size = w.heap.size + 2 by simp, show (w.alloc (.cells cs 30)).heap.size = w.heap.size + 1 by simp] at e0
  have E0 := Lib.hid e0
  have IN := Lib.hid hs.inf
  have IM := Lib.hid hm.inf
  have IZ : Hid ((Try.prog.info? 30).map (·.size) = some (#[.int .i64 0, .int .i64 0, .int .u32 0, .int .u32 0, .int .u32 0, .int .i64 0, .slice none 0 0, .int .u32 0, .int .i64 0, .slice none 0 0, .bool false, .int .u32 0, .int .u32 0, .int .i64 0, .int .i64 0, .int .i64 0, .slice none 0 0] : Array Value).size) := Lib.hid (by kernel_rfl)
  have OZ : Hid ((#[.int .i64 0, .int .i64 0, .int .u32 0, .int .u32 0, .int .u32 0, .int .i64 0, .slice none 0 0, .int .u32 0, .int .i64 0, .slice none 0 0, .bool false, .int .u32 0, .int .u32 0, .int .i64 0, .int .i64 0, .int .i64 0, .slice none 0 0] : Array Value).all (·.oneCell') = true) := Lib.hid (by kernel_rfl)
  have ZST : Hid (∀ W, IsSt W (fun _ => True) #[.int .i64 0, .int .i64 0, .int .u32 0, .int .u32 0, .int .u32 0, .int .i64 0, .slice none 0 0, .int .u32 0, .int .i64 0, .slice none 0 0, .bool false, .int .u32 0, .int .u32 0, .int .i64 0, .int .i64 0, .int .i64 0, .slice none 0 0] LSt.zero) := Lib.hid (fun W => zero_is W _)
  have ONE := Lib.hid hs.one
  have CS1 := Lib.hid hs.c1
  have CS3 := Lib.hid hs.c3
  have CS10 := Lib.hid hs.c10
  have HMM := Lib.hid hm
  obtain ⟨UA0, Uc0, UA1, Uc1, UA, Uc, hcs, u0, u1, u2⟩ := hs
  obtain ⟨MA, mc, hmc, hmr⟩ := hm
  have ADM : Hid (IsSt w (fun _ => True) ((L.admitted M).cells UA0 Uc0 UA1 Uc1 MA mc) (L.admitted M)) := Lib.hid ⟨UA0, Uc0, UA1, Uc1, MA, mc, rfl, u0.imp (fun _ _ _ => trivial), u1.imp (fun _ _ _ => trivial), hmr.imp (fun _ _ _ => trivial)⟩
  have HCS := Lib.hid hcs
  have HMC := Lib.hid hmc
  have R2 := Lib.hid u2
  have HM1 : Hid (ms[1]? = some (.int .u32 (M.v : Int))) := Lib.hid (by rw [hmc]; rfl)
  clear e0 hmc hmr hcs u0 u1 u2
  have HGG := Lib.hid hg
  clear hg
  go_enter Try.func17, Try.ntmps17
  go_upto_region 2 with fail
  generalize ((((w.alloc (.cells cs 30)).alloc (.cells ms 28)).alloc (.cells #[.int .i64 0, .int .i64 0, .int .u32 0, .int .u32 0, .int .u32 0, .int .i64 0, .slice none 0 0, .int .u32 0, .int .i64 0, .slice none 0 0, .bool false, .int .u32 0, .int .u32 0, .int .i64 0, .int .i64 0, .int .i64 0, .slice none 0 0] 30)).alloc (.cells #[.int .i64 0, .int .i64 0, .int .u32 0, .int .u32 0, .int .u32 0, .int .i64 0, .slice none 0 0, .int .u32 0, .int .i64 0, .slice none 0 0, .bool false, .int .u32 0, .int .u32 0, .int .i64 0, .int .i64 0, .int .i64 0, .slice none 0 0] 30)) = w0 at *
  generalize (#[.int .i64 0, .int .i64 0, .int .u32 0, .int .u32 0, .int .u32 0, .int .i64 0, .slice none 0 0, .int .u32 0, .int .i64 0, .slice none 0 0, .bool false, .int .u32 0, .int .u32 0, .int .i64 0, .int .i64 0, .int .i64 0, .slice none 0 0] : Array Value) = zc at *
  go_wp2_with ((with_reducible show wpList _ _ _ _ _ _); refine wpList_load_row (o := ⟨some 9, _, _, _, _, _⟩) rfl _ (.tmp 2) rfl w.heap.size rfl _ _ _ _ (E0.out.bx _ _ _ (.tail _ (.tail _ (.tail _ (.head _))))) Try.underlying30 rfl IN.out ?_)
  refine (rmayS (E0.out.st _ _ (.head _))).mono ?_
  rintro e w1 ⟨rfl, hb1⟩
  have E1 := Lib.hid (E0.out.below hb1)
  clear hb1 E0
  rw [Bool.not_eq_false, Bool.and_eq_true] at hmay
  obtain ⟨hm1, hm2⟩ := hmay
  have HAND : Hid (¬ (L.may && M.may) = false) := Lib.hid (by simp [hm1, hm2])
  rw [hm1]
  go_wp2_with ((with_reducible show wpList _ _ _ _ _ _); refine wpList_load_rowG (o := ⟨some 13, _, _, _, _, _⟩) (by rfl) _ (.tmp 3) rfl (w.heap.size + 1) rfl _ _ _ _ (E1.out.bx _ _ _ (.tail _ (.tail _ (.head _)))) Try.underlying28 rfl IM.out ?_)
  refine (rmanMayS (E1.out.mn _ _ (.head _))).mono ?_
  rintro e w2 ⟨rfl, hb2⟩
  have E2 := Lib.hid (E1.out.below hb2)
  rw [hm2]
  clear hb2 E1 hm1 hm2
  have t1 := (E2.out.cell (.tail _ (.tail _ (.tail _ (.head _)))) 1).trans CS1.out
  have htb : (L.trial != 0) = false := by simp [ht]
  have HT := Lib.hid ht
  clear ht
  have t10 := (E2.out.cell (.tail _ (.tail _ (.tail _ (.head _)))) 10).trans CS10.out
  have hsm : ∀ x : Bool, (L.on && L.m.eqb M) = x → True := fun _ _ => trivial
  rw [hon] at t10
  have hcs := HCS.out
  have n11 : w2.cell? ⟨w.heap.size, 11, none⟩ = some (.int .u32 (L.m.s : Int)) := (E2.out.cell (.tail _ (.tail _ (.tail _ (.head _)))) 11).trans (by rw [hcs]; rfl)
  have n12 : w2.cell? ⟨w.heap.size, 12, none⟩ = some (.int .u32 (L.m.v : Int)) := (E2.out.cell (.tail _ (.tail _ (.tail _ (.head _)))) 12).trans (by rw [hcs]; rfl)
  have n13 : w2.cell? ⟨w.heap.size, 13, none⟩ = some (.int .i64 L.m.l) := (E2.out.cell (.tail _ (.tail _ (.tail _ (.head _)))) 13).trans (by rw [hcs]; rfl)
  have n14 : w2.cell? ⟨w.heap.size, 14, none⟩ = some (.int .i64 L.m.z) := (E2.out.cell (.tail _ (.tail _ (.tail _ (.head _)))) 14).trans (by rw [hcs]; rfl)
  have n15 : w2.cell? ⟨w.heap.size, 15, none⟩ = some (.int .i64 L.m.p) := (E2.out.cell (.tail _ (.tail _ (.tail _ (.head _)))) 15).trans (by rw [hcs]; rfl)
  have n16 : w2.cell? ⟨w.heap.size, 16, none⟩ = some (.slice UA L.m.h.length Uc) := (E2.out.cell (.tail _ (.tail _ (.tail _ (.head _)))) 16).trans (by rw [hcs]; rfl)
  have nm : IsMan w2 (fun _ => True) (L.m.cells UA Uc) L.m := ⟨_, _, rfl, (R2.out.imp (fun _ _ _ => trivial)).below (E2.out.b)⟩
  clear hcs
  go_wp2_with ((with_reducible show wpList _ _ _ _ _ _); refine wpList_load_rowG (o := ⟨some 29, _, _, _, _, _⟩) (by rfl) _ (.tmp 3) rfl (w.heap.size + 1) rfl _ _ _ _ (E2.out.bx _ _ _ (.tail _ (.tail _ (.head _)))) Try.underlying28 rfl IM.out ?_)
  refine (rmanSameS nm (E2.out.mn _ _ (.head _))).mono ?_
  rintro e w5 ⟨rfl, hb5⟩
  have E5 := Lib.hid (E2.out.below hb5)
  clear hb5 E2 t1 t10 n11 n12 n13 n14 n15 n16 nm
  rw [hq]
  have HR8 : Hid (¬ (L.on && L.m.eqb M) = true) := Lib.hid (by rw [hon, hq]; simp)
  clear hon hq hsm htb
  go_upto_region 8 with fail
  have v1 := (E5.out.cell (.tail _ (.tail _ (.head _))) 1).trans HM1.out
  go_wp2_with ((with_reducible show wpList _ _ _ _ _ _); refine wpList_load_row (o := ⟨some 34, _, _, _, _, _⟩) rfl _ (.tmp 2) rfl w.heap.size rfl _ _ _ _ (E5.out.bx _ _ _ (.tail _ (.tail _ (.tail _ (.head _))))) Try.underlying30 rfl IN.out ?_)
  refine (rnewerS M.v (E5.out.st _ _ (.head _))).mono ?_
  rintro e w6 ⟨rfl, hb6⟩
  have E6 := Lib.hid (E5.out.below hb6)
  clear hb6 E5 v1
  rw [hnw]
  have g3 := (E6.out.cell (.tail _ (.tail _ (.tail _ (.head _)))) 3).trans CS3.out
  have hg := HGG.out
  have HR0 : Hid (L.admitR M = 0) := Lib.hid (by unfold LSt.admitR; rw [if_neg HAND.out, if_neg (by simp [HT.out]), if_neg HR8.out, if_neg (by simp [hnw]), if_neg hg])
  have hgd : decide (4294967294 ≤ (L.gen : Int)) = false := by rw [decide_eq_false_iff_not]; omega
  have HGEN := Lib.hid hg
  clear hg
  have hbx : w6.heap[w.heap.size]? = some (.cells (L.cells UA0 Uc0 UA1 Uc1 UA Uc) 30 (0, 0)) := by rw [← HCS.out]; exact E6.out.bx _ _ _ (.tail _ (.tail _ (.tail _ (.head _))))
  have hbm : w6.heap[w.heap.size + 1]? = some (.cells (M.cells MA mc) 28 (0, 0)) := by rw [← HMC.out]; exact E6.out.bx _ _ _ (.tail _ (.tail _ (.head _)))
  have HBX := Lib.hid hbx
  have HB4 := Lib.hid (E6.out.bx _ _ _ (.tail _ (.head _)))
  have HB := Lib.hid E6.out.b
  have hlt : w.heap.size < w6.heap.size := (Array.getElem?_eq_some_iff.1 hbx).1
  have hlt2 : w.heap.size + 1 < w6.heap.size := (Array.getElem?_eq_some_iff.1 hbm).1
  have m0 : w6.cell? ⟨w.heap.size + 1, 0, none⟩ = some (.int .u32 (M.s : Int)) := by rw [cell_of_row _ _ 0 _ _ (0, 0) hbm]; rfl
  have m1 : w6.cell? ⟨w.heap.size + 1, 1, none⟩ = some (.int .u32 (M.v : Int)) := by rw [cell_of_row _ _ 1 _ _ (0, 0) hbm]; rfl
  have m2 : w6.cell? ⟨w.heap.size + 1, 2, none⟩ = some (.int .i64 M.l) := by rw [cell_of_row _ _ 2 _ _ (0, 0) hbm]; rfl
  have m3 : w6.cell? ⟨w.heap.size + 1, 3, none⟩ = some (.int .i64 M.z) := by rw [cell_of_row _ _ 3 _ _ (0, 0) hbm]; rfl
  have m4 : w6.cell? ⟨w.heap.size + 1, 4, none⟩ = some (.int .i64 M.p) := by rw [cell_of_row _ _ 4 _ _ (0, 0) hbm]; rfl
  have m5 : w6.cell? ⟨w.heap.size + 1, 5, none⟩ = some (.slice MA M.h.length mc) := by rw [cell_of_row _ _ 5 _ _ (0, 0) hbm]; rfl
  have uu3 : w6.cell? ⟨w.heap.size, 3, none⟩ = some (.int .u32 (L.gen : Int)) := by rw [cell_of_row _ _ 3 _ _ (0, 0) hbx]; rfl
  have uu10 : w6.cell? ⟨w.heap.size, 10, none⟩ = some (.bool L.on) := by rw [cell_of_row _ _ 10 _ _ (0, 0) hbx]; rfl
  have uu11 : w6.cell? ⟨w.heap.size, 11, none⟩ = some (.int .u32 (L.m.s : Int)) := by rw [cell_of_row _ _ 11 _ _ (0, 0) hbx]; rfl
  have uu12 : w6.cell? ⟨w.heap.size, 12, none⟩ = some (.int .u32 (L.m.v : Int)) := by rw [cell_of_row _ _ 12 _ _ (0, 0) hbx]; rfl
  have uu13 : w6.cell? ⟨w.heap.size, 13, none⟩ = some (.int .i64 L.m.l) := by rw [cell_of_row _ _ 13 _ _ (0, 0) hbx]; rfl
  have uu14 : w6.cell? ⟨w.heap.size, 14, none⟩ = some (.int .i64 L.m.z) := by rw [cell_of_row _ _ 14 _ _ (0, 0) hbx]; rfl
  have uu15 : w6.cell? ⟨w.heap.size, 15, none⟩ = some (.int .i64 L.m.p) := by rw [cell_of_row _ _ 15 _ _ (0, 0) hbx]; rfl
  have uu16 : w6.cell? ⟨w.heap.size, 16, none⟩ = some (.slice UA L.m.h.length Uc) := by rw [cell_of_row _ _ 16 _ _ (0, 0) hbx]; rfl
  have z3 := frozen_of_row w6 w.heap.size 3 _ _ hbx
  have z10 := frozen_of_row w6 w.heap.size 10 _ _ hbx
  have z11 := frozen_of_row w6 w.heap.size 11 _ _ hbx
  have z12 := frozen_of_row w6 w.heap.size 12 _ _ hbx
  have z13 := frozen_of_row w6 w.heap.size 13 _ _ hbx
  have z14 := frozen_of_row w6 w.heap.size 14 _ _ hbx
  have z15 := frozen_of_row w6 w.heap.size 15 _ _ hbx
  have z16 := frozen_of_row w6 w.heap.size 16 _ _ hbx
  have HWR : IntKind.u32.wrap ((L.gen : Int) + 1) = ((L.gen + 1 : Nat) : Int) := by have := HGEN.out; rw [IntKind.wrap_u32]; omega
  clear hbx hbm E6 g3
  go_upto_region 13 with fail
  go_cut [] (fun wx => Hid (wx = (((((((((w6.setCell ⟨w.heap.size, 3, none⟩ (.int .u32 ((L.gen : Int) + 1))).setCell ⟨w.heap.size, 10, none⟩ (.bool true)).setCell ⟨w.heap.size, 11, none⟩ (.int .u32 (M.s : Int))).setCell ⟨w.heap.size, 12, none⟩ (.int .u32 (M.v : Int))).setCell ⟨w.heap.size, 13, none⟩ (.int .i64 M.l)).setCell ⟨w.heap.size, 14, none⟩ (.int .i64 M.z)).setCell ⟨w.heap.size, 15, none⟩ (.int .i64 M.p)).setCell ⟨w.heap.size, 16, none⟩ (.slice MA M.h.length mc)).drew)))
  case first =>
    go_region
    all_goals (go_wp2_with fail; go_meet; exact Lib.hid rfl)
  case rest =>
    have K8 : Hid (∀ b, b ≠ w.heap.size → wc.heap[b]? = w6.heap[b]?) := Lib.hid (fun b h => by rw [hcut.out, drew_heap]; exact keep8a h _ _ _ _ _ _ _ _)
    have X8 : Hid (wc.heap[w.heap.size]? = some (.cells ((L.admitted M).cells UA0 Uc0 UA1 Uc1 MA mc) 30 (0, 0))) := Lib.hid (by rw [hcut.out, drew_heap]; exact set8a HBX.out _ _ _ _ _ _ _ _)
    have B8 : Hid (Below w.heap.size w wc) := Lib.hid (by
      rw [hcut.out]
      exact ((((((((HB.out.setCell (Nat.le_refl _) _).setCell (Nat.le_refl _) _).setCell (Nat.le_refl _) _).setCell (Nat.le_refl _) _).setCell (Nat.le_refl _) _).setCell (Nat.le_refl _) _).setCell (Nat.le_refl _) _).setCell (Nat.le_refl _) _).drew)
    have X4 : Hid (wc.heap[w.heap.size + 2]? = some (.cells zc 30 (0, 0))) := Lib.hid ((K8.out _ (by omega)).trans HB4.out)
    have IC : Hid ((Try.prog.info? 30).map (·.size) = some ((L.admitted M).cells UA0 Uc0 UA1 Uc1 MA mc).size) := Lib.hid (by kernel_rfl)
    have OC := Lib.hid ADM.out.one
    have SZC : Hid (zc.size = ((L.admitted M).cells UA0 Uc0 UA1 Uc1 MA mc).size) := Lib.hid ((ZST.out w).size)
    clear hcut m0 m1 m2 m3 m4 m5 uu3 uu10 uu11 uu12 uu13 uu14 uu15 uu16 z3 z10 z11 z12 z13 z14 z15 z16 HWR HBX HB4 HB
    generalize (L.admitted M).cells UA0 Uc0 UA1 Uc1 MA mc = cu at *
    go_wp2_with (first
      | ((with_reducible show wpList _ _ _ _ _ _); refine wpList_load_row (o := ⟨some 52, _, _, _, _, _⟩) rfl _ (.tmp 2) rfl w.heap.size rfl _ _ _ _ X8.out Try.underlying30 rfl IC.out ?_)
      | ((with_reducible show wpList _ _ _ _ _ _); refine wpList_store_row rfl _ (.tmp 4) (.tmp 52) rfl (w.heap.size + 2) cu rfl rfl _ _ X4.out IC.out SZC.out OC.out ?_))
    have hrow := setRow_heap _ _ _ cu _ _ X4.out
    refine bodyPost_ret (results_cell_tmp_row rfl _ _ (w.heap.size + 2) _ _ (0, 0) _ rfl hrow Try.underlying30 rfl IC.out) rfl ?_
    have hfin := below_setRow2 B8.out (show w.heap.size ≤ w.heap.size + 2 by omega) cu
    exact radm_yes HR0.out ⟨_, rfl, Lib.hid (ADM.out.below hfin), Lib.hid hfin⟩
end Go.Proofs.Ytdipccjgpkedhaa
