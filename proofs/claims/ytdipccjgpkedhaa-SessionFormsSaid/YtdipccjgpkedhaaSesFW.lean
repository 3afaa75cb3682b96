/- SessionForms' walk. -/
import Derived.Test.YtdipccjgpkedhaaRAdmP12
import Derived.Test.YtdipccjgpkedhaaRAdmF6
import Derived.Test.YtdipccjgpkedhaaRAdmF9
import Derived.Test.YtdipccjgpkedhaaRAdmFY
import Derived.Test.YtdipccjgpkedhaaRAdmT8
import Derived.Test.YtdipccjgpkedhaaRAdmT6
import Derived.Test.YtdipccjgpkedhaaRAdmT9
import Derived.Test.YtdipccjgpkedhaaRAdmTY
import Derived.Test.YtdipccjgpkedhaaRSame
namespace Go.Proofs.Ytdipccjgpkedhaa
open Go.RowKit
theorem radmitS {w : World} {P P' : Nat → Prop} {cs ms : Array Value} {L : LSt} {M : LMan} (hs : IsSt w P cs L) (hm : IsMan w P' ms M) :
    Calls Try.prog 17 #[.agg cs, .agg ms] w (RAdm L M w) := by
  by_cases h : (L.may && M.may) = false
  · exact radmit_a hs hm h
  · by_cases ht : L.trial = 0
    case neg => exact radmit_P12 hs hm h ht
    cases ho : L.on with
    | false =>
      cases hn : L.newer M.v with
      | false => exact radmit_F6 hs hm h ht ho hn
      | true =>
        by_cases hg : 4294967294 ≤ L.gen
        · exact radmit_F9 hs hm h ht ho hn hg
        · exact radmit_FY hs hm h ht ho hn hg
    | true =>
      cases hq : L.m.eqb M with
      | true => exact radmit_T8 hs hm h ht ho hq
      | false =>
        cases hn : L.newer M.v with
        | false => exact radmit_T6 hs hm h ht ho hq hn
        | true =>
          by_cases hg : 4294967294 ≤ L.gen
          · exact radmit_T9 hs hm h ht ho hq hn hg
          · exact radmit_TY hs hm h ht ho hq hn hg
theorem admitS_any {w : World} {P P' : Nat → Prop} {cs ms : Array Value} {L : LSt} {M : LMan} (hs : IsSt w P cs L) (hm : IsMan w P' ms M) :
    Calls Try.prog 16 #[.agg cs, .agg ms] w (RAdm L M w) := by
  by_cases hr : L.admitR M = 0
  · refine (admitS_yes hs hm hr).mono ?_
    rintro e w' ⟨ds, rfl, h1, h2⟩
    exact radm_yes hr ⟨ds, rfl, Lib.hid (h1.out.imp fun _ _ _ => trivial), h2⟩
  · refine (admitS_no hs hm rfl hr).mono ?_
    rintro e w' ⟨rfl, h2⟩
    exact radm_no rfl hr ⟨zState, rfl, Lib.hid (zero_is _ _), Lib.hid h2⟩
set_option maxRecDepth 100000 in
set_option maxHeartbeats 3200000 in
theorem sforms_walk (cs ms : Array Value) (L : LSt) (M : LMan) (ver : Nat) (w : World) (hs : IsSt w (fun _ => True) cs L) (hm : IsMan w (fun _ => True) ms M) :
    Calls Try.prog 4 #[.agg cs, .agg ms, .int .u32 (ver : Int)] w fun e w' => e = .returned (.bool true) ∧ Below w.heap.size w w' := by
  have e0 := ((((Env.start w).addSt hs).addMan hm).alloc cs 30).alloc ms 28
  rw [show (w.alloc (.cells cs 30)).heap.size = w.heap.size + 1 by simp] at e0
  have E0 := Lib.hid e0
  have IN := Lib.hid hs.inf
  have IM := Lib.hid hm.inf
  obtain ⟨MA, mc, hmc, hmr⟩ := hm
  have HM5 : Hid (ms[5]? = some (.slice MA M.h.length mc)) := Lib.hid (by rw [hmc]; rfl)
  clear e0 hs hmc hmr
  go_enter Try.func4, Try.ntmps4
  go_wp2_with ((with_reducible show wpList _ _ _ _ _ _); refine wpList_load_row (o := ⟨some 11, _, _, _, _, _⟩) rfl _ (.tmp 3) rfl w.heap.size rfl _ _ _ _ (E0.out.bx _ _ _ (.tail _ (.head _))) Try.underlying30 rfl IN.out ?_)
  generalize (w.alloc (.cells cs 30)).alloc (.cells ms 28) = w0 at *
  by_cases hl : L.light
  case neg =>
    refine (heavyS_yes (E0.out.st _ _ (.head _)) hl).mono ?_
    rintro e w1 ⟨rfl, hb1⟩
    have E1 := Lib.hid (E0.out.below hb1)
    clear hb1 E0
    go_wp2_with fail
    refine (awake22_any w1).mono ?_
    rintro e w2 ⟨rfl, hb2⟩
    have hb := (E1.out.below hb2).b
    go_wp2_with fail
    go_ret
    exact ⟨rfl, hb⟩
  refine (heavyS_no (E0.out.st _ _ (.head _)) hl).mono ?_
  rintro e w1 ⟨rfl, hb1⟩
  have E1 := Lib.hid (E0.out.below hb1)
  clear hb1 E0
  have hc5 := (E1.out.cell (.head _) 5).trans HM5.out
  by_cases h100 : 100 < M.h.length
  · go_wp2_with fail
    refine (awake22_any w1).mono ?_
    rintro e w2 ⟨rfl, hb2⟩
    have hb := (E1.out.below hb2).b
    go_wp2_with fail
    go_ret
    exact ⟨rfl, hb⟩
  go_wp2_with (first
    | ((with_reducible show wpList _ _ _ _ _ _); refine wpList_load_row (o := ⟨some 22, _, _, _, _, _⟩) rfl _ (.tmp 3) rfl w.heap.size rfl _ _ _ _ (E1.out.bx _ _ _ (.tail _ (.head _))) Try.underlying30 rfl IN.out ?_)
    | ((with_reducible show wpList _ _ _ _ _ _); refine wpList_load_row (o := ⟨some 23, _, _, _, _, _⟩) rfl _ (.tmp 4) rfl (w.heap.size + 1) rfl _ _ _ _ (E1.out.bx _ _ _ (.head _)) Try.underlying28 rfl IM.out ?_))
  clear hc5
  refine (admitS_any (E1.out.st _ _ (.head _)) (E1.out.mn _ _ (.head _))).mono ?_
  obtain ⟨r, hr⟩ : ∃ r, L.admitR M = r := ⟨_, rfl⟩
  obtain ⟨R, hR⟩ : ∃ R, (if L.admitR M = 0 then L.admitted M else LSt.zero) = R := ⟨_, rfl⟩
  have HR := Lib.hid hR
  have HRR := Lib.hid hr
  unfold RAdm
  rw [hR, hr]
  clear hR hr
  rintro e w2 ⟨c1, rfl, hs1, hb2⟩
  have E2 := Lib.hid (((E1.out.below hb2.out).addSt hs1.out).alloc c1 30)
  have I1 := Lib.hid hs1.out.inf
  have O1 := Lib.hid hs1.out.one
  have Z1 : Hid (17 = c1.size) := Lib.hid hs1.out.size.symm
  clear hb2 hs1 E1
  go_upto_region 4 with ((with_reducible show wpList _ _ _ _ _ _); refine wpList_store_new rfl rfl _ (.tmp 7) (.tmp 25) rfl _ _ c1 _ rfl rfl I1.out Z1.out O1.out ?_)
  generalize hg7 : w2.heap.size = g7 at *
  clear hg7
  generalize w2.alloc (.cells c1 30) = w3 at *
  go_wp2_with (first
    | ((with_reducible show wpList _ _ _ _ _ _); refine wpList_load_row (o := ⟨some 28, _, _, _, _, _⟩) rfl _ (.tmp 3) rfl w.heap.size rfl _ _ _ _ (E2.out.bx _ _ _ (.tail _ (.tail _ (.head _)))) Try.underlying30 rfl IN.out ?_)
    | ((with_reducible show wpList _ _ _ _ _ _); refine wpList_load_row (o := ⟨some 29, _, _, _, _, _⟩) rfl _ (.tmp 4) rfl (w.heap.size + 1) rfl _ _ _ _ (E2.out.bx _ _ _ (.tail _ (.head _))) Try.underlying28 rfl IM.out ?_))
  refine (radmitS (E2.out.st _ _ (.tail _ (.head _))) (E2.out.mn _ _ (.head _))).mono ?_
  unfold RAdm
  rw [HR.out, HRR.out]
  rintro e w4 ⟨d1, rfl, hs2, hb4⟩
  have E3 := Lib.hid (((E2.out.below hb4.out).addSt hs2.out).alloc d1 30)
  have I2 := Lib.hid hs2.out.inf
  have O2 := Lib.hid hs2.out.one
  have Z2 : Hid (17 = d1.size) := Lib.hid hs2.out.size.symm
  clear hb4 hs2 E2 HR HRR
  go_upto_region 5 with ((with_reducible show wpList _ _ _ _ _ _); refine wpList_store_new rfl rfl _ (.tmp 9) (.tmp 31) rfl _ _ d1 _ rfl rfl I2.out Z2.out O2.out ?_)
  generalize hg9 : w4.heap.size = g9 at *
  clear hg9
  generalize w4.alloc (.cells d1 30) = wC at *
  have HE : Hid (∀ W, Below wC.heap.size wC W → Env w W [(g9, d1, 30), (g7, c1, 30), (w.heap.size + 1, ms, 28), (w.heap.size, cs, 30)] [(d1, R), (c1, R), (cs, L)] [(ms, M)]) := Lib.hid (fun W hW => E3.out.below hW)
  have HEQ : Hid (R.eqb R = true) := Lib.hid (eqb_refl _)
  obtain ⟨nw, hnw⟩ : ∃ b, L.newer ver = b := ⟨_, rfl⟩
  have HNW := Lib.hid hnw
  have q1 : (nw == nw) = true := by simp
  have q2 : (r == r) = true := by simp
  clear E3 hnw
  refine wp_region_noPanic ?_
  refine wp_region_held_drew (S := (fun W => Below (wC.heap.size) wC W)) (by kernel_rfl) (Below.refl _ _).drew (fun hH0 => ?_)
  have hH0 : Below (wC.heap.size) wC wC.drew := hH0
  generalize wC.drew = wd9000 at *
  refine wpAnyH_take (i := 0) (oi := { dst := some 33, op := Op.load 30 (Operand.tmp 7), type := 30, pos := "law.go:33", after := #[], guard := none }) (v := .agg c1) rfl (by kernel_rfl) (by kernel_rfl) (by kernel_rfl) (fun _ _ _ h => h) (yields_row (by rfl) _ _ rfl g7 rfl _ _ _ _ (fun W hW => (HE.out W hW).bx _ _ _ (.tail _ (.head _))) Try.underlying30 rfl I1.out) hH0 ?tkr9001
  try simp only [Act.put, List.setIfInBounds_toArray, List.set_cons_zero, List.set_cons_succ]
  refine wpAnyH_take (i := 1) (oi := { dst := some 34, op := Op.load 30 (Operand.tmp 9), type := 30, pos := "law.go:33", after := #[], guard := none }) (v := .agg d1) rfl (by kernel_rfl) (by kernel_rfl) (by kernel_rfl) (fun _ _ _ h => h) (yields_row (by rfl) _ _ rfl g9 rfl _ _ _ _ (fun W hW => (HE.out W hW).bx _ _ _ (.head _)) Try.underlying30 rfl I2.out) hH0 ?tkr9002
  try simp only [Act.put, List.setIfInBounds_toArray, List.set_cons_zero, List.set_cons_succ]
  refine wpAnyH_ready (rs := [2]) (by kernel_rfl) (by simp) ?_
  refine AllReadyH.cons (o := { dst := some 35, op := Op.call { callee := Callee.value (Operand.func 12), args := #[Operand.tmp 33, Operand.tmp 34], argTypes := #[30, 30] }, type := 4, pos := "law.go:33", after := #[{ on := 0, ground := Ground.data }, { on := 1, ground := Ground.data }], guard := none }) rfl (fun K hK => ?_) AllReadyH.nil
  go_simp
  refine (rsameS ((HE.out wd9000 (hH0)).st _ _ (.tail _ (.head _))) ((HE.out wd9000 (hH0)).st _ _ (.head _))).mono ?_
  rintro e' wn9003 ⟨rfl, hb9003⟩
  rw [HEQ.out]
  go_simp
  have hS9003 : Below (wC.heap.size) wC wn9003 := (hH0).trans (hb9003.mono (hH0).size)
  refine hK.out _ _ hS9003 (fun hH9003 => ?_)
  have hH9003 : Below (wC.heap.size) wC wn9003 := hH9003
  clear hK K hS9003
  try simp only [Act.put, List.setIfInBounds_toArray, List.set_cons_zero, List.set_cons_succ]
  refine wpAnyH_take (i := 3) (oi := { dst := some 36, op := Op.move (Operand.tmp 35), type := 4, pos := "law.go:33", after := #[{ on := 2, ground := Ground.data }, { on := 2, ground := Ground.chain }], guard := none }) (v := ?tkv9004) rfl (by kernel_rfl) (by kernel_rfl) (by kernel_rfl) (fun _ _ _ h => h) (Or.inl ⟨by rfl, ?tky9004⟩) hH9003 ?tkr9004
  case tky9004 => (intro w' hSw; clear hSw; go_simp; try with_reducible rfl)
  try simp only [Act.put, List.setIfInBounds_toArray, List.set_cons_zero, List.set_cons_succ]
  refine wpAnyH_take (i := 4) (oi := { dst := some 37, op := Op.move (Operand.tmp 8), type := 33, pos := "law.go:33", after := #[{ on := 3, ground := Ground.guard }], guard := some (3, true) }) (v := ?tkv9005) rfl (by kernel_rfl) (by kernel_rfl) (by kernel_rfl) (fun _ _ _ h => h) (Or.inl ⟨by rfl, ?tky9005⟩) hH9003 ?tkr9005
  case tky9005 => (intro w' hSw; clear hSw; go_simp; try with_reducible rfl)
  try simp only [Act.put, List.setIfInBounds_toArray, List.set_cons_zero, List.set_cons_succ]
  refine wpAnyH_take (i := 5) (oi := { dst := some 38, op := Op.move (Operand.tmp 10), type := 33, pos := "law.go:33", after := #[{ on := 3, ground := Ground.guard }], guard := some (3, true) }) (v := ?tkv9006) rfl (by kernel_rfl) (by kernel_rfl) (by kernel_rfl) (fun _ _ _ h => h) (Or.inl ⟨by rfl, ?tky9006⟩) hH9003 ?tkr9006
  case tky9006 => (intro w' hSw; clear hSw; go_simp; try with_reducible rfl)
  try simp only [Act.put, List.setIfInBounds_toArray, List.set_cons_zero, List.set_cons_succ]
  refine wpAnyH_take (i := 6) (oi := { dst := some 39, op := Op.binOp BinOp.eql 33 (Operand.tmp 37) (Operand.tmp 38) 33, type := 4, pos := "law.go:33", after := #[{ on := 4, ground := Ground.data }, { on := 5, ground := Ground.data }, { on := 3, ground := Ground.guard }], guard := some (3, true) }) (v := ?tkv9007) rfl (by kernel_rfl) (by kernel_rfl) (by kernel_rfl) (fun _ _ _ h => h) (Or.inl ⟨by rfl, ?tky9007⟩) hH9003 ?tkr9007
  case tky9007 => (intro w' hSw; clear hSw; go_simp; try with_reducible rfl)
  try simp only [Act.put, List.setIfInBounds_toArray, List.set_cons_zero, List.set_cons_succ]
  refine wpAnyH_take (i := 7) (oi := { dst := some 40, op := Op.pick (Operand.tmp 36) (Operand.tmp 39) (Operand.const (Value.bool false)), type := 4, pos := "law.go:33", after := #[{ on := 3, ground := Ground.data }, { on := 6, ground := Ground.data }], guard := none }) (v := ?tkv9008) rfl (by kernel_rfl) (by kernel_rfl) (by kernel_rfl) (fun _ _ _ h => h) (Or.inl ⟨by rfl, ?tky9008⟩) hH9003 ?tkr9008
  case tky9008 => (intro w' hSw; clear hSw; go_simp; try with_reducible rfl)
  try simp only [Act.put, List.setIfInBounds_toArray, List.set_cons_zero, List.set_cons_succ]
  refine wpAnyH_take (i := 8) (oi := { dst := some 41, op := Op.move (Operand.tmp 40), type := 4, pos := "law.go:33", after := #[{ on := 7, ground := Ground.data }, { on := 3, ground := Ground.chain }], guard := none }) (v := ?tkv9009) rfl (by kernel_rfl) (by kernel_rfl) (by kernel_rfl) (fun _ _ _ h => h) (Or.inl ⟨by rfl, ?tky9009⟩) hH9003 ?tkr9009
  case tky9009 => (intro w' hSw; clear hSw; go_simp; try with_reducible rfl)
  try simp only [Act.put, List.setIfInBounds_toArray, List.set_cons_zero, List.set_cons_succ]
  refine wpAnyH_take (i := 9) (oi := { dst := some 42, op := Op.load 30 (Operand.tmp 3), type := 30, pos := "law.go:33", after := #[{ on := 8, ground := Ground.guard }], guard := some (8, true) }) (v := .agg cs) rfl (by kernel_rfl) (by kernel_rfl) (by kernel_rfl) (fun _ _ _ h => h) (yields_row (by rfl) _ _ rfl w.heap.size rfl _ _ _ _ (fun W hW => (HE.out W hW).bx _ _ _ (.tail _ (.tail _ (.tail _ (.head _))))) Try.underlying30 rfl IN.out) hH9003 ?tkr9010
  try simp only [Act.put, List.setIfInBounds_toArray, List.set_cons_zero, List.set_cons_succ]
  refine wpAnyH_take (i := 10) (oi := { dst := some 43, op := Op.move (Operand.tmp 2), type := 22, pos := "law.go:33", after := #[{ on := 8, ground := Ground.guard }], guard := some (8, true) }) (v := ?tkv9011) rfl (by kernel_rfl) (by kernel_rfl) (by kernel_rfl) (fun _ _ _ h => h) (Or.inl ⟨by rfl, ?tky9011⟩) hH9003 ?tkr9011
  case tky9011 => (intro w' hSw; clear hSw; go_simp; try with_reducible rfl)
  try simp only [Act.put, List.setIfInBounds_toArray, List.set_cons_zero, List.set_cons_succ]
  refine wpAnyH_take (i := 12) (oi := { dst := some 45, op := Op.load 30 (Operand.tmp 3), type := 30, pos := "law.go:33", after := #[{ on := 8, ground := Ground.guard }], guard := some (8, true) }) (v := .agg cs) rfl (by kernel_rfl) (by kernel_rfl) (by kernel_rfl) (fun _ _ _ h => h) (yields_row (by rfl) _ _ rfl w.heap.size rfl _ _ _ _ (fun W hW => (HE.out W hW).bx _ _ _ (.tail _ (.tail _ (.tail _ (.head _))))) Try.underlying30 rfl IN.out) hH9003 ?tkr9012
  try simp only [Act.put, List.setIfInBounds_toArray, List.set_cons_zero, List.set_cons_succ]
  refine wpAnyH_take (i := 13) (oi := { dst := some 46, op := Op.move (Operand.tmp 2), type := 22, pos := "law.go:33", after := #[{ on := 8, ground := Ground.guard }], guard := some (8, true) }) (v := ?tkv9013) rfl (by kernel_rfl) (by kernel_rfl) (by kernel_rfl) (fun _ _ _ h => h) (Or.inl ⟨by rfl, ?tky9013⟩) hH9003 ?tkr9013
  case tky9013 => (intro w' hSw; clear hSw; go_simp; try with_reducible rfl)
  try simp only [Act.put, List.setIfInBounds_toArray, List.set_cons_zero, List.set_cons_succ]
  refine wpAnyH_ready (rs := [11]) (by kernel_rfl) (by simp) ?_
  refine AllReadyH.cons (o := { dst := some 44, op := Op.call { callee := Callee.value (Operand.func 18), args := #[Operand.tmp 42, Operand.tmp 43], argTypes := #[30, 22] }, type := 4, pos := "law.go:33", after := #[{ on := 9, ground := Ground.data }, { on := 10, ground := Ground.data }, { on := 8, ground := Ground.chain }, { on := 8, ground := Ground.guard }], guard := some (8, true) }) rfl (fun K hK => ?_) AllReadyH.nil
  go_simp
  refine (newerS ver ((HE.out wn9003 (hH9003)).st _ _ (.tail _ (.tail _ (.head _))))).mono ?_
  rintro e' wn9014 ⟨rfl, hb9014⟩
  rw [HNW.out]
  go_simp
  have hS9014 : Below (wC.heap.size) wC wn9014 := (hH9003).trans (hb9014.mono (hH9003).size)
  refine hK.out _ _ hS9014 (fun hH9014 => ?_)
  have hH9014 : Below (wC.heap.size) wC wn9014 := hH9014
  clear hK K hS9014
  try simp only [Act.put, List.setIfInBounds_toArray, List.set_cons_zero, List.set_cons_succ]
  refine wpAnyH_ready (rs := [14]) (by kernel_rfl) (by simp) ?_
  refine AllReadyH.cons (o := { dst := some 47, op := Op.call { callee := Callee.value (Operand.func 19), args := #[Operand.tmp 45, Operand.tmp 46], argTypes := #[30, 22] }, type := 4, pos := "law.go:33", after := #[{ on := 12, ground := Ground.data }, { on := 13, ground := Ground.data }, { on := 11, ground := Ground.chain }, { on := 8, ground := Ground.guard }], guard := some (8, true) }) rfl (fun K hK => ?_) AllReadyH.nil
  go_simp
  refine (rnewerS ver ((HE.out wn9014 (hH9014)).st _ _ (.tail _ (.tail _ (.head _))))).mono ?_
  rintro e' wn9015 ⟨rfl, hb9015⟩
  rw [HNW.out]
  go_simp
  have hS9015 : Below (wC.heap.size) wC wn9015 := (hH9014).trans (hb9015.mono (hH9014).size)
  refine hK.out _ _ hS9015 (fun hH9015 => ?_)
  have hH9015 : Below (wC.heap.size) wC wn9015 := hH9015
  clear hK K hS9015
  try simp only [Act.put, List.setIfInBounds_toArray, List.set_cons_zero, List.set_cons_succ]
  refine wpAnyH_take (i := 15) (oi := { dst := some 48, op := Op.binOp BinOp.eql 4 (Operand.tmp 44) (Operand.tmp 47) 4, type := 4, pos := "law.go:33", after := #[{ on := 11, ground := Ground.data }, { on := 14, ground := Ground.data }, { on := 8, ground := Ground.guard }], guard := some (8, true) }) (v := ?tkv9016) rfl (by kernel_rfl) (by kernel_rfl) (by kernel_rfl) (fun _ _ _ h => h) (Or.inl ⟨by rfl, ?tky9016⟩) hH9015 ?tkr9016
  case tky9016 => (intro w' hSw; clear hSw; go_simp; try with_reducible rfl)
  try simp only [Act.put, List.setIfInBounds_toArray, List.set_cons_zero, List.set_cons_succ]
  refine wpAnyH_take (i := 16) (oi := { dst := some 49, op := Op.pick (Operand.tmp 41) (Operand.tmp 48) (Operand.const (Value.bool false)), type := 4, pos := "law.go:33", after := #[{ on := 8, ground := Ground.data }, { on := 15, ground := Ground.data }], guard := none }) (v := ?tkv9017) rfl (by kernel_rfl) (by kernel_rfl) (by kernel_rfl) (fun _ _ _ h => h) (Or.inl ⟨by rfl, ?tky9017⟩) hH9015 ?tkr9017
  case tky9017 => (intro w' hSw; clear hSw; go_simp; try with_reducible rfl)
  try simp only [Act.put, List.setIfInBounds_toArray, List.set_cons_zero, List.set_cons_succ]
  refine wpAnyH_take (i := 17) (oi := { dst := some 50, op := Op.move (Operand.tmp 49), type := 4, pos := "law.go:33", after := #[{ on := 16, ground := Ground.data }, { on := 14, ground := Ground.chain }], guard := none }) (v := ?tkv9018) rfl (by kernel_rfl) (by kernel_rfl) (by kernel_rfl) (fun _ _ _ h => h) (Or.inl ⟨by rfl, ?tky9018⟩) hH9015 ?tkr9018
  case tky9018 => (intro w' hSw; clear hSw; go_simp; try with_reducible rfl)
  try simp only [Act.put, List.setIfInBounds_toArray, List.set_cons_zero, List.set_cons_succ]
  refine wpAnyH_ready (rs := [18]) (by kernel_rfl) (by simp) ?_
  refine AllReadyH.cons (o := { dst := some 51, op := Op.call { callee := Callee.value (Operand.func 15), args := #[], argTypes := #[] }, type := 4, pos := "law.go:33", after := #[{ on := 17, ground := Ground.chain }, { on := 17, ground := Ground.guard }], guard := some (17, true) }) rfl (fun K hK => ?_) AllReadyH.nil
  go_simp
  refine (awake22_any wn9015).mono ?_
  rintro e' wn9019 ⟨rfl, hb9019⟩
  go_simp
  have hS9019 : Below (wC.heap.size) wC wn9019 := (hH9015).trans (hb9019.mono (hH9015).size)
  refine hK.out _ _ hS9019 (fun hH9019 => ?_)
  have hH9019 : Below (wC.heap.size) wC wn9019 := hH9019
  clear hK K hS9019
  try simp only [Act.put, List.setIfInBounds_toArray, List.set_cons_zero, List.set_cons_succ]
  refine wpAnyH_take (i := 19) (oi := { dst := some 52, op := Op.pick (Operand.tmp 50) (Operand.tmp 51) (Operand.const (Value.bool false)), type := 4, pos := "law.go:33", after := #[{ on := 17, ground := Ground.data }, { on := 18, ground := Ground.data }], guard := none }) (v := ?tkv9020) rfl (by kernel_rfl) (by kernel_rfl) (by kernel_rfl) (fun _ _ _ h => h) (Or.inl ⟨by rfl, ?tky9020⟩) hH9019 ?tkr9020
  case tky9020 => (intro w' hSw; clear hSw; go_simp; try with_reducible rfl)
  try simp only [Act.put, List.setIfInBounds_toArray, List.set_cons_zero, List.set_cons_succ]
  refine wpAnyH_take (i := 20) (oi := { dst := some 6, op := Op.assign (Operand.tmp 52), type := 4, pos := "law.go:33", after := #[{ on := 19, ground := Ground.data }, { on := 18, ground := Ground.chain }, { on := 0, ground := Ground.phase }, { on := 1, ground := Ground.phase }, { on := 2, ground := Ground.phase }, { on := 3, ground := Ground.phase }, { on := 4, ground := Ground.phase }, { on := 5, ground := Ground.phase }, { on := 6, ground := Ground.phase }, { on := 7, ground := Ground.phase }, { on := 8, ground := Ground.phase }, { on := 9, ground := Ground.phase }, { on := 10, ground := Ground.phase }, { on := 11, ground := Ground.phase }, { on := 12, ground := Ground.phase }, { on := 13, ground := Ground.phase }, { on := 14, ground := Ground.phase }, { on := 15, ground := Ground.phase }, { on := 16, ground := Ground.phase }, { on := 17, ground := Ground.phase }, { on := 18, ground := Ground.phase }, { on := 19, ground := Ground.phase }], guard := none }) (v := ?tkv9021) rfl (by kernel_rfl) (by kernel_rfl) (by kernel_rfl) (fun _ _ _ h => h) (Or.inl ⟨by rfl, ?tky9021⟩) hH9019 ?tkr9021
  case tky9021 => (intro w' hSw; clear hSw; go_simp; try with_reducible rfl)
  try simp only [Act.put, List.setIfInBounds_toArray, List.set_cons_zero, List.set_cons_succ]
  refine wpAnyH_done (by kernel_rfl) ?_ _
  refine NoPanic.normal ?_
  have HEND := Lib.hid ((HE.out _ (hH9019)).b)
  go_wp2_with fail
  go_ret
  exact ⟨rfl, HEND.out⟩
end Go.Proofs.Ytdipccjgpkedhaa
