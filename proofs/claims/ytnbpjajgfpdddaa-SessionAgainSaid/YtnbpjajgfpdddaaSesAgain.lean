/- SessionAgain's walk. -/
import Derived.Test.YtnbpjajgfpdddaaSesMath
namespace Go.Proofs.Ytnbpjajgfpdddaa
open Go.RowKit
set_option maxRecDepth 100000 in
set_option maxHeartbeats 3200000 in
theorem again_walk (cs ms : Array Value) (L : LSt) (M : LMan) (w : World) (hs : IsSt w (fun _ => True) cs L) (hm : IsMan w (fun _ => True) ms M) :
    Calls Try.prog 11 #[.agg cs, .agg ms] w fun e w' => e = .returned (.bool true) ∧ Below w.heap.size w w' := by
  have e0 := ((((Env.start w).addSt hs).addMan hm).alloc cs 30).alloc ms 28
  rw [show (w.alloc (.cells cs 30)).heap.size = w.heap.size + 1 by simp] at e0
  have E0 := Lib.hid e0
  have IN := Lib.hid hs.inf
  have IM := Lib.hid hm.inf
  obtain ⟨MA, mc, hmc, _⟩ := hm
  have HM5 : Hid (ms[5]? = some (.slice MA M.h.length mc)) := Lib.hid (by rw [hmc]; rfl)
  have HM1 : Hid (ms[1]? = some (.int .u32 (M.v : Int))) := Lib.hid (by rw [hmc]; rfl)
  clear e0 hs hmc
  go_enter Try.func11, Try.ntmps11
  go_wp2_with ((with_reducible show wpList _ _ _ _ _ _); refine wpList_load_row (o := ⟨some 9, _, _, _, _, _⟩) rfl _ (.tmp 2) rfl w.heap.size rfl _ _ _ _ (E0.out.bx _ _ _ (.tail _ (.head _))) Try.underlying30 rfl IN.out ?_)
  generalize (w.alloc (.cells cs 30)).alloc (.cells ms 28) = w0 at *
  by_cases hl : L.light
  case neg =>
    refine (heavyS_yes (E0.out.st _ _ (.head _)) hl).mono ?_
    rintro e w1 ⟨rfl, hb1⟩
    have E1 := Lib.hid (E0.out.below hb1)
    clear hb1 E0
    go_wp2_with fail
    refine (awake22_any w1).mono ?_
    rintro e w2 ⟨rfl, hb2⟩
    have hb := (E1.out.below hb2).b
    go_wp2_with fail
    go_ret
    exact ⟨rfl, hb⟩
  refine (heavyS_no (E0.out.st _ _ (.head _)) hl).mono ?_
  rintro e w1 ⟨rfl, hb1⟩
  have E1 := Lib.hid (E0.out.below hb1)
  clear hb1 E0
  have hc5 := (E1.out.cell (.head _) 5).trans HM5.out
  by_cases h100 : 100 < M.h.length
  · go_wp2_with fail
    refine (awake22_any w1).mono ?_
    rintro e w2 ⟨rfl, hb2⟩
    have hb := (E1.out.below hb2).b
    go_wp2_with fail
    go_ret
    exact ⟨rfl, hb⟩
  go_wp2_with (first
    | ((with_reducible show wpList _ _ _ _ _ _); refine wpList_load_row (o := ⟨some 20, _, _, _, _, _⟩) rfl _ (.tmp 2) rfl w.heap.size rfl _ _ _ _ (E1.out.bx _ _ _ (.tail _ (.head _))) Try.underlying30 rfl IN.out ?_)
    | ((with_reducible show wpList _ _ _ _ _ _); refine wpList_load_row (o := ⟨some 21, _, _, _, _, _⟩) rfl _ (.tmp 3) rfl (w.heap.size + 1) rfl _ _ _ _ (E1.out.bx _ _ _ (.head _)) Try.underlying28 rfl IM.out ?_))
  clear hc5
  by_cases hr : L.admitR M = 0
  case neg =>
    refine (admitS_no (E1.out.st _ _ (.head _)) (E1.out.mn _ _ (.head _)) rfl hr).mono ?_
    rintro e w2 ⟨rfl, hb2⟩
    have E2 := Lib.hid ((E1.out.below hb2).alloc zState 30)
    have hne : (L.admitR M != 0) = true := by simp [hr]
    generalize L.admitR M = r at *
    clear hb2 E1 hr
    go_wp2_with ((with_reducible show wpList _ _ _ _ _ _); refine wpList_store_new rfl rfl _ (.tmp 5) (.tmp 23) rfl _ _ zState _ rfl rfl (by kernel_rfl) (by rfl) (by kernel_rfl) ?_)
    refine (awake22_any _).mono ?_
    rintro e w3 ⟨rfl, hb3⟩
    have hb := (E2.out.below hb3).b
    go_wp2_with fail
    go_ret
    exact ⟨rfl, hb⟩
  refine (admitS_yes (E1.out.st _ _ (.head _)) (E1.out.mn _ _ (.head _)) hr).mono ?_
  rintro e w2 ⟨c1, rfl, hs1, hb2⟩
  have E3 := Lib.hid (((E1.out.below hb2.out).addSt hs1.out).alloc c1 30)
  have I1 := Lib.hid hs1.out.inf
  have O1 := Lib.hid hs1.out.one
  have Z1 : Hid (17 = c1.size) := Lib.hid hs1.out.size.symm
  have C13 := Lib.hid hs1.out.c3
  obtain ⟨_, hlt, hdr, hdl, hrd, had, hm2, hn1, hn2⟩ := admitted_drop hr
  have HLT := Lib.hid hlt
  have HMAY2 := Lib.hid hm2
  have HN1 := Lib.hid hn1
  have HN2 := Lib.hid hn2
  have HAD := Lib.hid had
  have HRD := Lib.hid hrd
  clear hb2 hs1 E1 hlt hdr hdl hrd had hm2 hn1 hn2 hr
  go_upto_region 6 with ((with_reducible show wpList _ _ _ _ _ _); refine wpList_store_new rfl rfl _ (.tmp 5) (.tmp 23) rfl _ _ c1 _ rfl rfl I1.out Z1.out O1.out ?_)
  generalize w2.alloc (.cells c1 30) = wA at *
  have HE : Hid (∀ W, Below wA.heap.size wA W → Env w W [(w2.heap.size, c1, 30), (w.heap.size + 1, ms, 28), (w.heap.size, cs, 30)] [(c1, L.admitted M), (cs, L)] [(ms, M)]) := Lib.hid (fun W hW => E3.out.below hW)
  obtain ⟨G1, hG1⟩ : ∃ G1, L.gen + 1 = G1 := ⟨_, rfl⟩
  have C13' : Hid (c1[3]? = some (.int .u32 (G1 : Int))) := Lib.hid (by rw [C13.out, ← hG1]; rfl)
  have HG1 := Lib.hid hG1
  clear C13 hG1 O1 Z1
  by_cases h9 : 4294967294 ≤ L.gen + 1
  · have HR9 : Hid ((L.admitted M).drop.admitR M = 9) := Lib.hid (by rw [HRD.out, if_pos h9])
    have HG9 : Hid (decide (4294967294 ≤ (G1 : Int)) = true) := Lib.hid (by rw [decide_eq_true_eq]; have := HG1.out; omega)
    clear h9
    go_cut [8] (fun s8 wx => s8 = .int .i64 9 ∧ Hid (Below wA.heap.size wA wx))
    case first =>
      refine wp_region_noPanic ?_
      refine wp_region_held_drew (S := (fun W => Below (wA.heap.size) wA W)) (by kernel_rfl) (Below.refl _ _).drew (fun hH0 => ?_)
      have hH0 : Below (wA.heap.size) wA wA.drew := hH0
      generalize wA.drew = wd6000 at *
      refine wpAnyH_take (i := 0) (oi := { dst := some 29, op := Op.load 30 (Operand.tmp 5), type := 30, pos := "more.go:22", after := #[], guard := none }) (v := .agg c1) rfl (by kernel_rfl) (by kernel_rfl) (by kernel_rfl) (fun _ _ _ h => h) (yields_row (by rfl) _ _ rfl w2.heap.size rfl _ _ _ _ (fun W hW => (HE.out W hW).bx _ _ _ (.head _)) Try.underlying30 rfl I1.out) hH0 ?tkr6001
      try simp only [Act.put, List.setIfInBounds_toArray, List.set_cons_zero, List.set_cons_succ]
      refine wpAnyH_take (i := 2) (oi := { dst := some 31, op := Op.load 28 (Operand.tmp 3), type := 28, pos := "more.go:22", after := #[], guard := none }) (v := .agg ms) rfl (by kernel_rfl) (by kernel_rfl) (by kernel_rfl) (fun _ _ _ h => h) (yields_row (by rfl) _ _ rfl (w.heap.size + 1) rfl _ _ _ _ (fun W hW => (HE.out W hW).bx _ _ _ (.tail _ (.head _))) Try.underlying28 rfl IM.out) hH0 ?tkr6002
      try simp only [Act.put, List.setIfInBounds_toArray, List.set_cons_zero, List.set_cons_succ]
      refine wpAnyH_ready (rs := [1, 7]) (by kernel_rfl) (by simp) ?_
      refine AllReadyH.cons (o := { dst := some 30, op := Op.call { callee := Callee.value (Operand.func 31), args := #[Operand.tmp 29], argTypes := #[30] }, type := 30, pos := "more.go:22", after := #[{ on := 0, ground := Ground.data }], guard := none }) rfl (fun K hK => ?_) (AllReadyH.cons (o := { dst := some 7, op := Op.alloc 30, type := 0, pos := "more.go:22", after := #[], guard := none }) rfl (fun K hK => ?_) AllReadyH.nil)
      · go_simp
        refine (dropS ((HE.out wd6000 (hH0)).st _ _ (.head _)) HLT.out).mono ?_
        rintro e' wn6003 ⟨cd6003, rfl, D6003, hbo6003⟩
        have hb6003 := hbo6003.out
        go_simp
        have hS6003 : Below (wA.heap.size) wA wn6003 := (hH0).trans (hb6003.mono (hH0).size)
        refine hK.out _ _ hS6003 (fun hH6003 => ?_)
        have hH6003 : Below (wA.heap.size) wA wn6003 := hH6003
        clear hK K hS6003
        try simp only [Act.put, List.setIfInBounds_toArray, List.set_cons_zero, List.set_cons_succ]
        refine wpAnyH_ready (rs := [3, 7]) (by kernel_rfl) (by simp) ?_
        refine AllReadyH.cons (o := { dst := some 32, op := Op.call { callee := Callee.value (Operand.func 24), args := #[Operand.tmp 30, Operand.tmp 31], argTypes := #[30, 28] }, type := 40, pos := "more.go:22", after := #[{ on := 1, ground := Ground.data }, { on := 2, ground := Ground.data }, { on := 1, ground := Ground.chain }], guard := none }) rfl (fun K hK => ?_) (AllReadyH.cons (o := { dst := some 7, op := Op.alloc 30, type := 0, pos := "more.go:22", after := #[], guard := none }) rfl (fun K hK => ?_) AllReadyH.nil)
        · go_simp
          refine (admitS_no D6003.out ((HE.out wn6003 (hH6003)).mn _ _ (.head _)) HR9.out (by decide)).mono ?_
          rintro e' wn6004 ⟨rfl, hb6004⟩
          go_simp
          have D6003_6004 := Lib.hid (D6003.out.below hb6004)
          have hS6004 : Below (wA.heap.size) wA wn6004 := (hH6003).trans (hb6004.mono (hH6003).size)
          refine hK.out _ _ hS6004 (fun hH6004 => ?_)
          have hH6004 : Below (wA.heap.size) wA wn6004 := hH6004
          clear hK K hS6004
          try simp only [Act.put, List.setIfInBounds_toArray, List.set_cons_zero, List.set_cons_succ]
          refine wpAnyH_take (i := 4) (oi := { dst := some 28, op := Op.move (Operand.tmp 32), type := 40, pos := "more.go:22", after := #[{ on := 3, ground := Ground.data }], guard := none }) (v := ?tkv6005) rfl (by kernel_rfl) (by kernel_rfl) (by kernel_rfl) (fun _ _ _ h => h) (Or.inl ⟨by rfl, ?tky6005⟩) hH6004 ?tkr6005
          case tky6005 => (intro w' hSw; clear hSw; go_simp; try with_reducible rfl)
          try simp only [Act.put, List.setIfInBounds_toArray, List.set_cons_zero, List.set_cons_succ]
          refine wpAnyH_take (i := 5) (oi := { dst := some 33, op := Op.extract (Operand.tmp 28) 0, type := 30, pos := "more.go:22", after := #[{ on := 4, ground := Ground.data }], guard := none }) (v := ?tkv6006) rfl (by kernel_rfl) (by kernel_rfl) (by kernel_rfl) (fun _ _ _ h => h) (Or.inl ⟨by rfl, ?tky6006⟩) hH6004 ?tkr6006
          case tky6006 => (intro w' hSw; clear hSw; go_simp; try with_reducible rfl)
          try simp only [Act.put, List.setIfInBounds_toArray, List.set_cons_zero, List.set_cons_succ]
          refine wpAnyH_take (i := 6) (oi := { dst := some 34, op := Op.extract (Operand.tmp 28) 1, type := 33, pos := "more.go:22", after := #[{ on := 4, ground := Ground.data }, { on := 8, ground := Ground.gcOnly Departure.lateStores }], guard := none }) (v := ?tkv6007) rfl (by kernel_rfl) (by kernel_rfl) (by kernel_rfl) (fun _ _ _ h => h) (Or.inl ⟨by rfl, ?tky6007⟩) hH6004 ?tkr6007
          case tky6007 => (intro w' hSw; clear hSw; go_simp; try with_reducible rfl)
          try simp only [Act.put, List.setIfInBounds_toArray, List.set_cons_zero, List.set_cons_succ]
          refine wpAnyH_ready (rs := [7]) (by kernel_rfl) (by simp) ?_
          refine AllReadyH.cons (o := { dst := some 7, op := Op.alloc 30, type := 0, pos := "more.go:22", after := #[], guard := none }) rfl (fun K hK => ?_) AllReadyH.nil
          go_simp
          have hb6008 : Below wn6004.heap.size wn6004 (wn6004.alloc (.cells #[.int .i64 0, .int .i64 0, .int .u32 0, .int .u32 0, .int .u32 0, .int .i64 0, .slice none 0 0, .int .u32 0, .int .i64 0, .slice none 0 0, .bool false, .int .u32 0, .int .u32 0, .int .i64 0, .int .i64 0, .int .i64 0, .slice none 0 0] 30)) := (Below.refl _ _).alloc (Nat.le_refl _) _
          have BX6008 : Hid ((wn6004.alloc (.cells #[.int .i64 0, .int .i64 0, .int .u32 0, .int .u32 0, .int .u32 0, .int .i64 0, .slice none 0 0, .int .u32 0, .int .i64 0, .slice none 0 0, .bool false, .int .u32 0, .int .u32 0, .int .i64 0, .int .i64 0, .int .i64 0, .slice none 0 0] 30)).heap[wn6004.heap.size]? = some (.cells #[.int .i64 0, .int .i64 0, .int .u32 0, .int .u32 0, .int .u32 0, .int .i64 0, .slice none 0 0, .int .u32 0, .int .i64 0, .slice none 0 0, .bool false, .int .u32 0, .int .u32 0, .int .i64 0, .int .i64 0, .int .i64 0, .slice none 0 0] 30 (0, 0))) := Lib.hid (heap_alloc_new _ _)
          have LX6008 : Hid (wn6004.heap.size < (wn6004.alloc (.cells #[.int .i64 0, .int .i64 0, .int .u32 0, .int .u32 0, .int .u32 0, .int .i64 0, .slice none 0 0, .int .u32 0, .int .i64 0, .slice none 0 0, .bool false, .int .u32 0, .int .u32 0, .int .i64 0, .int .i64 0, .int .i64 0, .slice none 0 0] 30)).heap.size) := Lib.hid (by simp)
          have GE6008 : Hid (wA.heap.size ≤ wn6004.heap.size) := Lib.hid (hH6004).size
          generalize (wn6004.alloc (.cells #[.int .i64 0, .int .i64 0, .int .u32 0, .int .u32 0, .int .u32 0, .int .i64 0, .slice none 0 0, .int .u32 0, .int .i64 0, .slice none 0 0, .bool false, .int .u32 0, .int .u32 0, .int .i64 0, .int .i64 0, .int .i64 0, .slice none 0 0] 30)) = wn6008 at *
          have D6003_6008 := Lib.hid (D6003_6004.out.below hb6008)
          have hS6008 : Below (wA.heap.size) wA wn6008 := (hH6004).trans (hb6008.mono (hH6004).size)
          refine hK.out _ _ hS6008 (fun hH6008 => ?_)
          have hH6008 : Below (wA.heap.size) wA wn6008 := hH6008
          clear hK K hS6008
          try simp only [Act.put, List.setIfInBounds_toArray, List.set_cons_zero, List.set_cons_succ]
          refine wpAnyH_ready (rs := [8]) (by kernel_rfl) (by simp) ?_
          refine AllReadyH.cons (o := { dst := none, op := Op.store 30 (Operand.tmp 7) (Operand.tmp 33), type := 0, pos := "more.go:22", after := #[{ on := 7, ground := Ground.data }, { on := 5, ground := Ground.data }, { on := 3, ground := Ground.chain }, { on := 0, ground := Ground.phase }, { on := 1, ground := Ground.phase }, { on := 2, ground := Ground.phase }, { on := 3, ground := Ground.phase }, { on := 4, ground := Ground.phase }, { on := 5, ground := Ground.phase }, { on := 6, ground := Ground.textOnly Departure.lateStores }, { on := 7, ground := Ground.phase }], guard := none }) rfl (fun K hK => ?_) AllReadyH.nil
          rw [if_pos (by rfl)]
          refine wp_store_row _ _ _ rfl wn6004.heap.size zState rfl rfl _ _ BX6008.out (by kernel_rfl) (by rfl) (by kernel_rfl) ?_
          have hS6009 : Below (wA.heap.size) wA (wn6008.setRow wn6004.heap.size zState) := (below_setRow2 (hH6008) GE6008.out _)
          refine hK.out _ _ hS6009 (fun hH6009 => ?_)
          have hH6009 : Below (wA.heap.size) wA (wn6008.setRow wn6004.heap.size zState) := hH6009
          clear hK K hS6009
          refine wpAnyH_take (i := 9) (oi := { dst := some 8, op := Op.assign (Operand.tmp 34), type := 33, pos := "more.go:22", after := #[{ on := 6, ground := Ground.data }, { on := 8, ground := Ground.chain }, { on := 0, ground := Ground.phase }, { on := 1, ground := Ground.phase }, { on := 2, ground := Ground.phase }, { on := 3, ground := Ground.phase }, { on := 4, ground := Ground.phase }, { on := 5, ground := Ground.phase }, { on := 6, ground := Ground.phase }, { on := 7, ground := Ground.phase }, { on := 8, ground := Ground.phase }], guard := none }) (v := ?tkv6010) rfl (by kernel_rfl) (by kernel_rfl) (by kernel_rfl) (fun _ _ _ h => h) (Or.inl ⟨by rfl, ?tky6010⟩) hH6009 ?tkr6010
          case tky6010 => (intro w' hSw; clear hSw; go_simp; try with_reducible rfl)
          try simp only [Act.put, List.setIfInBounds_toArray, List.set_cons_zero, List.set_cons_succ]
          refine wpAnyH_done (by kernel_rfl) ?_ _
          refine NoPanic.normal ?_
          go_wp2_with fail
          go_meet
          exact ⟨rfl, Lib.hid (hH6009)⟩
        · go_simp
          have hb6011 : Below wn6003.heap.size wn6003 (wn6003.alloc (.cells #[.int .i64 0, .int .i64 0, .int .u32 0, .int .u32 0, .int .u32 0, .int .i64 0, .slice none 0 0, .int .u32 0, .int .i64 0, .slice none 0 0, .bool false, .int .u32 0, .int .u32 0, .int .i64 0, .int .i64 0, .int .i64 0, .slice none 0 0] 30)) := (Below.refl _ _).alloc (Nat.le_refl _) _
          have BX6011 : Hid ((wn6003.alloc (.cells #[.int .i64 0, .int .i64 0, .int .u32 0, .int .u32 0, .int .u32 0, .int .i64 0, .slice none 0 0, .int .u32 0, .int .i64 0, .slice none 0 0, .bool false, .int .u32 0, .int .u32 0, .int .i64 0, .int .i64 0, .int .i64 0, .slice none 0 0] 30)).heap[wn6003.heap.size]? = some (.cells #[.int .i64 0, .int .i64 0, .int .u32 0, .int .u32 0, .int .u32 0, .int .i64 0, .slice none 0 0, .int .u32 0, .int .i64 0, .slice none 0 0, .bool false, .int .u32 0, .int .u32 0, .int .i64 0, .int .i64 0, .int .i64 0, .slice none 0 0] 30 (0, 0))) := Lib.hid (heap_alloc_new _ _)
          have LX6011 : Hid (wn6003.heap.size < (wn6003.alloc (.cells #[.int .i64 0, .int .i64 0, .int .u32 0, .int .u32 0, .int .u32 0, .int .i64 0, .slice none 0 0, .int .u32 0, .int .i64 0, .slice none 0 0, .bool false, .int .u32 0, .int .u32 0, .int .i64 0, .int .i64 0, .int .i64 0, .slice none 0 0] 30)).heap.size) := Lib.hid (by simp)
          have GE6011 : Hid (wA.heap.size ≤ wn6003.heap.size) := Lib.hid (hH6003).size
          generalize (wn6003.alloc (.cells #[.int .i64 0, .int .i64 0, .int .u32 0, .int .u32 0, .int .u32 0, .int .i64 0, .slice none 0 0, .int .u32 0, .int .i64 0, .slice none 0 0, .bool false, .int .u32 0, .int .u32 0, .int .i64 0, .int .i64 0, .int .i64 0, .slice none 0 0] 30)) = wn6011 at *
          have D6003_6011 := Lib.hid (D6003.out.below hb6011)
          have hS6011 : Below (wA.heap.size) wA wn6011 := (hH6003).trans (hb6011.mono (hH6003).size)
          refine hK.out _ _ hS6011 (fun hH6011 => ?_)
          have hH6011 : Below (wA.heap.size) wA wn6011 := hH6011
          clear hK K hS6011
          try simp only [Act.put, List.setIfInBounds_toArray, List.set_cons_zero, List.set_cons_succ]
          refine wpAnyH_ready (rs := [3]) (by kernel_rfl) (by simp) ?_
          refine AllReadyH.cons (o := { dst := some 32, op := Op.call { callee := Callee.value (Operand.func 24), args := #[Operand.tmp 30, Operand.tmp 31], argTypes := #[30, 28] }, type := 40, pos := "more.go:22", after := #[{ on := 1, ground := Ground.data }, { on := 2, ground := Ground.data }, { on := 1, ground := Ground.chain }], guard := none }) rfl (fun K hK => ?_) AllReadyH.nil
          go_simp
          refine (admitS_no D6003_6011.out ((HE.out wn6011 (hH6011)).mn _ _ (.head _)) HR9.out (by decide)).mono ?_
          rintro e' wn6012 ⟨rfl, hb6012⟩
          go_simp
          have D6003_6012 := Lib.hid (D6003_6011.out.below hb6012)
          have BX6011_6012 := Lib.hid ((hb6012.block wn6003.heap.size LX6011.out).trans BX6011.out)
          have LX6011_6012 := Lib.hid (Nat.lt_of_lt_of_le LX6011.out hb6012.size)
          have hS6012 : Below (wA.heap.size) wA wn6012 := (hH6011).trans (hb6012.mono (hH6011).size)
          refine hK.out _ _ hS6012 (fun hH6012 => ?_)
          have hH6012 : Below (wA.heap.size) wA wn6012 := hH6012
          clear hK K hS6012
          try simp only [Act.put, List.setIfInBounds_toArray, List.set_cons_zero, List.set_cons_succ]
          refine wpAnyH_take (i := 4) (oi := { dst := some 28, op := Op.move (Operand.tmp 32), type := 40, pos := "more.go:22", after := #[{ on := 3, ground := Ground.data }], guard := none }) (v := ?tkv6013) rfl (by kernel_rfl) (by kernel_rfl) (by kernel_rfl) (fun _ _ _ h => h) (Or.inl ⟨by rfl, ?tky6013⟩) hH6012 ?tkr6013
          case tky6013 => (intro w' hSw; clear hSw; go_simp; try with_reducible rfl)
          try simp only [Act.put, List.setIfInBounds_toArray, List.set_cons_zero, List.set_cons_succ]
          refine wpAnyH_take (i := 5) (oi := { dst := some 33, op := Op.extract (Operand.tmp 28) 0, type := 30, pos := "more.go:22", after := #[{ on := 4, ground := Ground.data }], guard := none }) (v := ?tkv6014) rfl (by kernel_rfl) (by kernel_rfl) (by kernel_rfl) (fun _ _ _ h => h) (Or.inl ⟨by rfl, ?tky6014⟩) hH6012 ?tkr6014
          case tky6014 => (intro w' hSw; clear hSw; go_simp; try with_reducible rfl)
          try simp only [Act.put, List.setIfInBounds_toArray, List.set_cons_zero, List.set_cons_succ]
          refine wpAnyH_take (i := 6) (oi := { dst := some 34, op := Op.extract (Operand.tmp 28) 1, type := 33, pos := "more.go:22", after := #[{ on := 4, ground := Ground.data }, { on := 8, ground := Ground.gcOnly Departure.lateStores }], guard := none }) (v := ?tkv6015) rfl (by kernel_rfl) (by kernel_rfl) (by kernel_rfl) (fun _ _ _ h => h) (Or.inl ⟨by rfl, ?tky6015⟩) hH6012 ?tkr6015
          case tky6015 => (intro w' hSw; clear hSw; go_simp; try with_reducible rfl)
          try simp only [Act.put, List.setIfInBounds_toArray, List.set_cons_zero, List.set_cons_succ]
          refine wpAnyH_ready (rs := [8]) (by kernel_rfl) (by simp) ?_
          refine AllReadyH.cons (o := { dst := none, op := Op.store 30 (Operand.tmp 7) (Operand.tmp 33), type := 0, pos := "more.go:22", after := #[{ on := 7, ground := Ground.data }, { on := 5, ground := Ground.data }, { on := 3, ground := Ground.chain }, { on := 0, ground := Ground.phase }, { on := 1, ground := Ground.phase }, { on := 2, ground := Ground.phase }, { on := 3, ground := Ground.phase }, { on := 4, ground := Ground.phase }, { on := 5, ground := Ground.phase }, { on := 6, ground := Ground.textOnly Departure.lateStores }, { on := 7, ground := Ground.phase }], guard := none }) rfl (fun K hK => ?_) AllReadyH.nil
          rw [if_pos (by rfl)]
          refine wp_store_row _ _ _ rfl wn6003.heap.size zState rfl rfl _ _ BX6011_6012.out (by kernel_rfl) (by rfl) (by kernel_rfl) ?_
          have hS6016 : Below (wA.heap.size) wA (wn6012.setRow wn6003.heap.size zState) := (below_setRow2 (hH6012) GE6011.out _)
          refine hK.out _ _ hS6016 (fun hH6016 => ?_)
          have hH6016 : Below (wA.heap.size) wA (wn6012.setRow wn6003.heap.size zState) := hH6016
          clear hK K hS6016
          refine wpAnyH_take (i := 9) (oi := { dst := some 8, op := Op.assign (Operand.tmp 34), type := 33, pos := "more.go:22", after := #[{ on := 6, ground := Ground.data }, { on := 8, ground := Ground.chain }, { on := 0, ground := Ground.phase }, { on := 1, ground := Ground.phase }, { on := 2, ground := Ground.phase }, { on := 3, ground := Ground.phase }, { on := 4, ground := Ground.phase }, { on := 5, ground := Ground.phase }, { on := 6, ground := Ground.phase }, { on := 7, ground := Ground.phase }, { on := 8, ground := Ground.phase }], guard := none }) (v := ?tkv6017) rfl (by kernel_rfl) (by kernel_rfl) (by kernel_rfl) (fun _ _ _ h => h) (Or.inl ⟨by rfl, ?tky6017⟩) hH6016 ?tkr6017
          case tky6017 => (intro w' hSw; clear hSw; go_simp; try with_reducible rfl)
          try simp only [Act.put, List.setIfInBounds_toArray, List.set_cons_zero, List.set_cons_succ]
          refine wpAnyH_done (by kernel_rfl) ?_ _
          refine NoPanic.normal ?_
          go_wp2_with fail
          go_meet
          exact ⟨rfl, Lib.hid (hH6016)⟩
      · go_simp
        have hb6018 : Below wd6000.heap.size wd6000 (wd6000.alloc (.cells #[.int .i64 0, .int .i64 0, .int .u32 0, .int .u32 0, .int .u32 0, .int .i64 0, .slice none 0 0, .int .u32 0, .int .i64 0, .slice none 0 0, .bool false, .int .u32 0, .int .u32 0, .int .i64 0, .int .i64 0, .int .i64 0, .slice none 0 0] 30)) := (Below.refl _ _).alloc (Nat.le_refl _) _
        have BX6018 : Hid ((wd6000.alloc (.cells #[.int .i64 0, .int .i64 0, .int .u32 0, .int .u32 0, .int .u32 0, .int .i64 0, .slice none 0 0, .int .u32 0, .int .i64 0, .slice none 0 0, .bool false, .int .u32 0, .int .u32 0, .int .i64 0, .int .i64 0, .int .i64 0, .slice none 0 0] 30)).heap[wd6000.heap.size]? = some (.cells #[.int .i64 0, .int .i64 0, .int .u32 0, .int .u32 0, .int .u32 0, .int .i64 0, .slice none 0 0, .int .u32 0, .int .i64 0, .slice none 0 0, .bool false, .int .u32 0, .int .u32 0, .int .i64 0, .int .i64 0, .int .i64 0, .slice none 0 0] 30 (0, 0))) := Lib.hid (heap_alloc_new _ _)
        have LX6018 : Hid (wd6000.heap.size < (wd6000.alloc (.cells #[.int .i64 0, .int .i64 0, .int .u32 0, .int .u32 0, .int .u32 0, .int .i64 0, .slice none 0 0, .int .u32 0, .int .i64 0, .slice none 0 0, .bool false, .int .u32 0, .int .u32 0, .int .i64 0, .int .i64 0, .int .i64 0, .slice none 0 0] 30)).heap.size) := Lib.hid (by simp)
        have GE6018 : Hid (wA.heap.size ≤ wd6000.heap.size) := Lib.hid (hH0).size
        generalize (wd6000.alloc (.cells #[.int .i64 0, .int .i64 0, .int .u32 0, .int .u32 0, .int .u32 0, .int .i64 0, .slice none 0 0, .int .u32 0, .int .i64 0, .slice none 0 0, .bool false, .int .u32 0, .int .u32 0, .int .i64 0, .int .i64 0, .int .i64 0, .slice none 0 0] 30)) = wn6018 at *
        have hS6018 : Below (wA.heap.size) wA wn6018 := (hH0).trans (hb6018.mono (hH0).size)
        refine hK.out _ _ hS6018 (fun hH6018 => ?_)
        have hH6018 : Below (wA.heap.size) wA wn6018 := hH6018
        clear hK K hS6018
        try simp only [Act.put, List.setIfInBounds_toArray, List.set_cons_zero, List.set_cons_succ]
        refine wpAnyH_ready (rs := [1]) (by kernel_rfl) (by simp) ?_
        refine AllReadyH.cons (o := { dst := some 30, op := Op.call { callee := Callee.value (Operand.func 31), args := #[Operand.tmp 29], argTypes := #[30] }, type := 30, pos := "more.go:22", after := #[{ on := 0, ground := Ground.data }], guard := none }) rfl (fun K hK => ?_) AllReadyH.nil
        go_simp
        refine (dropS ((HE.out wn6018 (hH6018)).st _ _ (.head _)) HLT.out).mono ?_
        rintro e' wn6019 ⟨cd6019, rfl, D6019, hbo6019⟩
        have hb6019 := hbo6019.out
        go_simp
        have BX6018_6019 := Lib.hid ((hb6019.block wd6000.heap.size LX6018.out).trans BX6018.out)
        have LX6018_6019 := Lib.hid (Nat.lt_of_lt_of_le LX6018.out hb6019.size)
        have hS6019 : Below (wA.heap.size) wA wn6019 := (hH6018).trans (hb6019.mono (hH6018).size)
        refine hK.out _ _ hS6019 (fun hH6019 => ?_)
        have hH6019 : Below (wA.heap.size) wA wn6019 := hH6019
        clear hK K hS6019
        try simp only [Act.put, List.setIfInBounds_toArray, List.set_cons_zero, List.set_cons_succ]
        refine wpAnyH_ready (rs := [3]) (by kernel_rfl) (by simp) ?_
        refine AllReadyH.cons (o := { dst := some 32, op := Op.call { callee := Callee.value (Operand.func 24), args := #[Operand.tmp 30, Operand.tmp 31], argTypes := #[30, 28] }, type := 40, pos := "more.go:22", after := #[{ on := 1, ground := Ground.data }, { on := 2, ground := Ground.data }, { on := 1, ground := Ground.chain }], guard := none }) rfl (fun K hK => ?_) AllReadyH.nil
        go_simp
        refine (admitS_no D6019.out ((HE.out wn6019 (hH6019)).mn _ _ (.head _)) HR9.out (by decide)).mono ?_
        rintro e' wn6020 ⟨rfl, hb6020⟩
        go_simp
        have BX6018_6020 := Lib.hid ((hb6020.block wd6000.heap.size LX6018_6019.out).trans BX6018_6019.out)
        have LX6018_6020 := Lib.hid (Nat.lt_of_lt_of_le LX6018_6019.out hb6020.size)
        have D6019_6020 := Lib.hid (D6019.out.below hb6020)
        have hS6020 : Below (wA.heap.size) wA wn6020 := (hH6019).trans (hb6020.mono (hH6019).size)
        refine hK.out _ _ hS6020 (fun hH6020 => ?_)
        have hH6020 : Below (wA.heap.size) wA wn6020 := hH6020
        clear hK K hS6020
        try simp only [Act.put, List.setIfInBounds_toArray, List.set_cons_zero, List.set_cons_succ]
        refine wpAnyH_take (i := 4) (oi := { dst := some 28, op := Op.move (Operand.tmp 32), type := 40, pos := "more.go:22", after := #[{ on := 3, ground := Ground.data }], guard := none }) (v := ?tkv6021) rfl (by kernel_rfl) (by kernel_rfl) (by kernel_rfl) (fun _ _ _ h => h) (Or.inl ⟨by rfl, ?tky6021⟩) hH6020 ?tkr6021
        case tky6021 => (intro w' hSw; clear hSw; go_simp; try with_reducible rfl)
        try simp only [Act.put, List.setIfInBounds_toArray, List.set_cons_zero, List.set_cons_succ]
        refine wpAnyH_take (i := 5) (oi := { dst := some 33, op := Op.extract (Operand.tmp 28) 0, type := 30, pos := "more.go:22", after := #[{ on := 4, ground := Ground.data }], guard := none }) (v := ?tkv6022) rfl (by kernel_rfl) (by kernel_rfl) (by kernel_rfl) (fun _ _ _ h => h) (Or.inl ⟨by rfl, ?tky6022⟩) hH6020 ?tkr6022
        case tky6022 => (intro w' hSw; clear hSw; go_simp; try with_reducible rfl)
        try simp only [Act.put, List.setIfInBounds_toArray, List.set_cons_zero, List.set_cons_succ]
        refine wpAnyH_take (i := 6) (oi := { dst := some 34, op := Op.extract (Operand.tmp 28) 1, type := 33, pos := "more.go:22", after := #[{ on := 4, ground := Ground.data }, { on := 8, ground := Ground.gcOnly Departure.lateStores }], guard := none }) (v := ?tkv6023) rfl (by kernel_rfl) (by kernel_rfl) (by kernel_rfl) (fun _ _ _ h => h) (Or.inl ⟨by rfl, ?tky6023⟩) hH6020 ?tkr6023
        case tky6023 => (intro w' hSw; clear hSw; go_simp; try with_reducible rfl)
        try simp only [Act.put, List.setIfInBounds_toArray, List.set_cons_zero, List.set_cons_succ]
        refine wpAnyH_ready (rs := [8]) (by kernel_rfl) (by simp) ?_
        refine AllReadyH.cons (o := { dst := none, op := Op.store 30 (Operand.tmp 7) (Operand.tmp 33), type := 0, pos := "more.go:22", after := #[{ on := 7, ground := Ground.data }, { on := 5, ground := Ground.data }, { on := 3, ground := Ground.chain }, { on := 0, ground := Ground.phase }, { on := 1, ground := Ground.phase }, { on := 2, ground := Ground.phase }, { on := 3, ground := Ground.phase }, { on := 4, ground := Ground.phase }, { on := 5, ground := Ground.phase }, { on := 6, ground := Ground.textOnly Departure.lateStores }, { on := 7, ground := Ground.phase }], guard := none }) rfl (fun K hK => ?_) AllReadyH.nil
        rw [if_pos (by rfl)]
        refine wp_store_row _ _ _ rfl wd6000.heap.size zState rfl rfl _ _ BX6018_6020.out (by kernel_rfl) (by rfl) (by kernel_rfl) ?_
        have hS6024 : Below (wA.heap.size) wA (wn6020.setRow wd6000.heap.size zState) := (below_setRow2 (hH6020) GE6018.out _)
        refine hK.out _ _ hS6024 (fun hH6024 => ?_)
        have hH6024 : Below (wA.heap.size) wA (wn6020.setRow wd6000.heap.size zState) := hH6024
        clear hK K hS6024
        refine wpAnyH_take (i := 9) (oi := { dst := some 8, op := Op.assign (Operand.tmp 34), type := 33, pos := "more.go:22", after := #[{ on := 6, ground := Ground.data }, { on := 8, ground := Ground.chain }, { on := 0, ground := Ground.phase }, { on := 1, ground := Ground.phase }, { on := 2, ground := Ground.phase }, { on := 3, ground := Ground.phase }, { on := 4, ground := Ground.phase }, { on := 5, ground := Ground.phase }, { on := 6, ground := Ground.phase }, { on := 7, ground := Ground.phase }, { on := 8, ground := Ground.phase }], guard := none }) (v := ?tkv6025) rfl (by kernel_rfl) (by kernel_rfl) (by kernel_rfl) (fun _ _ _ h => h) (Or.inl ⟨by rfl, ?tky6025⟩) hH6024 ?tkr6025
        case tky6025 => (intro w' hSw; clear hSw; go_simp; try with_reducible rfl)
        try simp only [Act.put, List.setIfInBounds_toArray, List.set_cons_zero, List.set_cons_succ]
        refine wpAnyH_done (by kernel_rfl) ?_ _
        refine NoPanic.normal ?_
        go_wp2_with fail
        go_meet
        exact ⟨rfl, Lib.hid (hH6024)⟩
    case rest =>
      obtain ⟨rfl, hbx⟩ := hcut
      have EC := Lib.hid (HE.out _ hbx.out)
      have k3 := (EC.out.cell (.head _) 3).trans C13'.out
      have hg9 := HG9.out
      clear HE HRD HR9
      go_wp2_with fail
      refine (awake22_any wc).mono ?_
      rintro e w9 ⟨rfl, hb9⟩
      have hb := (EC.out.below hb9).b
      clear k3
      go_wp2_with fail
      go_ret
      exact ⟨rfl, hb⟩
  · have HR0 : Hid ((L.admitted M).drop.admitR M = 0) := Lib.hid (by rw [HRD.out, if_neg h9])
    have HG0 : Hid (decide (4294967294 ≤ (G1 : Int)) = false) := Lib.hid (by rw [decide_eq_false_iff_not]; have := HG1.out; omega)
    have HWR : Hid (IntKind.u32.wrap ((G1 : Int) + 1) = ((L.gen + 2 : Nat) : Int)) := Lib.hid (by have := HG1.out; rw [IntKind.wrap_u32]; omega)
    clear h9
    go_cut [7, 8] (fun s7 s8 wx => ∃ g2 c2, s7 = .pointer (some ⟨g2, 0, none⟩) ∧ s8 = .int .i64 0 ∧ Hid (wx.heap[g2]? = some (.cells c2 30 (0, 0)) ∧ IsSt wx (fun _ => True) c2 { L with gen := L.gen + 2, on := true, m := M } ∧ Below wA.heap.size wA wx))
    case first =>
      refine wp_region_noPanic ?_
      refine wp_region_held_drew (S := (fun W => Below (wA.heap.size) wA W)) (by kernel_rfl) (Below.refl _ _).drew (fun hH0 => ?_)
      have hH0 : Below (wA.heap.size) wA wA.drew := hH0
      generalize wA.drew = wd6500 at *
      refine wpAnyH_take (i := 0) (oi := { dst := some 29, op := Op.load 30 (Operand.tmp 5), type := 30, pos := "more.go:22", after := #[], guard := none }) (v := .agg c1) rfl (by kernel_rfl) (by kernel_rfl) (by kernel_rfl) (fun _ _ _ h => h) (yields_row (by rfl) _ _ rfl w2.heap.size rfl _ _ _ _ (fun W hW => (HE.out W hW).bx _ _ _ (.head _)) Try.underlying30 rfl I1.out) hH0 ?tkr6501
      try simp only [Act.put, List.setIfInBounds_toArray, List.set_cons_zero, List.set_cons_succ]
      refine wpAnyH_take (i := 2) (oi := { dst := some 31, op := Op.load 28 (Operand.tmp 3), type := 28, pos := "more.go:22", after := #[], guard := none }) (v := .agg ms) rfl (by kernel_rfl) (by kernel_rfl) (by kernel_rfl) (fun _ _ _ h => h) (yields_row (by rfl) _ _ rfl (w.heap.size + 1) rfl _ _ _ _ (fun W hW => (HE.out W hW).bx _ _ _ (.tail _ (.head _))) Try.underlying28 rfl IM.out) hH0 ?tkr6502
      try simp only [Act.put, List.setIfInBounds_toArray, List.set_cons_zero, List.set_cons_succ]
      refine wpAnyH_ready (rs := [1, 7]) (by kernel_rfl) (by simp) ?_
      refine AllReadyH.cons (o := { dst := some 30, op := Op.call { callee := Callee.value (Operand.func 31), args := #[Operand.tmp 29], argTypes := #[30] }, type := 30, pos := "more.go:22", after := #[{ on := 0, ground := Ground.data }], guard := none }) rfl (fun K hK => ?_) (AllReadyH.cons (o := { dst := some 7, op := Op.alloc 30, type := 0, pos := "more.go:22", after := #[], guard := none }) rfl (fun K hK => ?_) AllReadyH.nil)
      · go_simp
        refine (dropS ((HE.out wd6500 (hH0)).st _ _ (.head _)) HLT.out).mono ?_
        rintro e' wn6503 ⟨cd6503, rfl, D6503, hbo6503⟩
        have hb6503 := hbo6503.out
        go_simp
        have hS6503 : Below (wA.heap.size) wA wn6503 := (hH0).trans (hb6503.mono (hH0).size)
        refine hK.out _ _ hS6503 (fun hH6503 => ?_)
        have hH6503 : Below (wA.heap.size) wA wn6503 := hH6503
        clear hK K hS6503
        try simp only [Act.put, List.setIfInBounds_toArray, List.set_cons_zero, List.set_cons_succ]
        refine wpAnyH_ready (rs := [3, 7]) (by kernel_rfl) (by simp) ?_
        refine AllReadyH.cons (o := { dst := some 32, op := Op.call { callee := Callee.value (Operand.func 24), args := #[Operand.tmp 30, Operand.tmp 31], argTypes := #[30, 28] }, type := 40, pos := "more.go:22", after := #[{ on := 1, ground := Ground.data }, { on := 2, ground := Ground.data }, { on := 1, ground := Ground.chain }], guard := none }) rfl (fun K hK => ?_) (AllReadyH.cons (o := { dst := some 7, op := Op.alloc 30, type := 0, pos := "more.go:22", after := #[], guard := none }) rfl (fun K hK => ?_) AllReadyH.nil)
        · go_simp
          refine (admitS_yes D6503.out ((HE.out wn6503 (hH6503)).mn _ _ (.head _)) HR0.out).mono ?_
          rintro e' wn6504 ⟨cz6504, rfl, S6504o, hbo6504⟩
          have hb6504 := hbo6504.out
          have S6504 := Lib.hid (S6504o.out.imp (P' := fun _ => True) (fun b _ _ => trivial))
          clear S6504o
          have I6504 := Lib.hid S6504.out.inf
          have O6504 := Lib.hid S6504.out.one
          have Z6504 : Hid (17 = cz6504.size) := Lib.hid S6504.out.size.symm
          rw [HAD.out] at S6504
          go_simp
          have D6503_6504 := Lib.hid (D6503.out.below hb6504)
          have hS6504 : Below (wA.heap.size) wA wn6504 := (hH6503).trans (hb6504.mono (hH6503).size)
          refine hK.out _ _ hS6504 (fun hH6504 => ?_)
          have hH6504 : Below (wA.heap.size) wA wn6504 := hH6504
          clear hK K hS6504
          try simp only [Act.put, List.setIfInBounds_toArray, List.set_cons_zero, List.set_cons_succ]
          refine wpAnyH_take (i := 4) (oi := { dst := some 28, op := Op.move (Operand.tmp 32), type := 40, pos := "more.go:22", after := #[{ on := 3, ground := Ground.data }], guard := none }) (v := ?tkv6505) rfl (by kernel_rfl) (by kernel_rfl) (by kernel_rfl) (fun _ _ _ h => h) (Or.inl ⟨by rfl, ?tky6505⟩) hH6504 ?tkr6505
          case tky6505 => (intro w' hSw; clear hSw; go_simp; try with_reducible rfl)
          try simp only [Act.put, List.setIfInBounds_toArray, List.set_cons_zero, List.set_cons_succ]
          refine wpAnyH_take (i := 5) (oi := { dst := some 33, op := Op.extract (Operand.tmp 28) 0, type := 30, pos := "more.go:22", after := #[{ on := 4, ground := Ground.data }], guard := none }) (v := ?tkv6506) rfl (by kernel_rfl) (by kernel_rfl) (by kernel_rfl) (fun _ _ _ h => h) (Or.inl ⟨by rfl, ?tky6506⟩) hH6504 ?tkr6506
          case tky6506 => (intro w' hSw; clear hSw; go_simp; try with_reducible rfl)
          try simp only [Act.put, List.setIfInBounds_toArray, List.set_cons_zero, List.set_cons_succ]
          refine wpAnyH_take (i := 6) (oi := { dst := some 34, op := Op.extract (Operand.tmp 28) 1, type := 33, pos := "more.go:22", after := #[{ on := 4, ground := Ground.data }, { on := 8, ground := Ground.gcOnly Departure.lateStores }], guard := none }) (v := ?tkv6507) rfl (by kernel_rfl) (by kernel_rfl) (by kernel_rfl) (fun _ _ _ h => h) (Or.inl ⟨by rfl, ?tky6507⟩) hH6504 ?tkr6507
          case tky6507 => (intro w' hSw; clear hSw; go_simp; try with_reducible rfl)
          try simp only [Act.put, List.setIfInBounds_toArray, List.set_cons_zero, List.set_cons_succ]
          refine wpAnyH_ready (rs := [7]) (by kernel_rfl) (by simp) ?_
          refine AllReadyH.cons (o := { dst := some 7, op := Op.alloc 30, type := 0, pos := "more.go:22", after := #[], guard := none }) rfl (fun K hK => ?_) AllReadyH.nil
          go_simp
          have hb6508 : Below wn6504.heap.size wn6504 (wn6504.alloc (.cells #[.int .i64 0, .int .i64 0, .int .u32 0, .int .u32 0, .int .u32 0, .int .i64 0, .slice none 0 0, .int .u32 0, .int .i64 0, .slice none 0 0, .bool false, .int .u32 0, .int .u32 0, .int .i64 0, .int .i64 0, .int .i64 0, .slice none 0 0] 30)) := (Below.refl _ _).alloc (Nat.le_refl _) _
          have BX6508 : Hid ((wn6504.alloc (.cells #[.int .i64 0, .int .i64 0, .int .u32 0, .int .u32 0, .int .u32 0, .int .i64 0, .slice none 0 0, .int .u32 0, .int .i64 0, .slice none 0 0, .bool false, .int .u32 0, .int .u32 0, .int .i64 0, .int .i64 0, .int .i64 0, .slice none 0 0] 30)).heap[wn6504.heap.size]? = some (.cells #[.int .i64 0, .int .i64 0, .int .u32 0, .int .u32 0, .int .u32 0, .int .i64 0, .slice none 0 0, .int .u32 0, .int .i64 0, .slice none 0 0, .bool false, .int .u32 0, .int .u32 0, .int .i64 0, .int .i64 0, .int .i64 0, .slice none 0 0] 30 (0, 0))) := Lib.hid (heap_alloc_new _ _)
          have LX6508 : Hid (wn6504.heap.size < (wn6504.alloc (.cells #[.int .i64 0, .int .i64 0, .int .u32 0, .int .u32 0, .int .u32 0, .int .i64 0, .slice none 0 0, .int .u32 0, .int .i64 0, .slice none 0 0, .bool false, .int .u32 0, .int .u32 0, .int .i64 0, .int .i64 0, .int .i64 0, .slice none 0 0] 30)).heap.size) := Lib.hid (by simp)
          have GE6508 : Hid (wA.heap.size ≤ wn6504.heap.size) := Lib.hid (hH6504).size
          have S6504q := Lib.hid (S6504.out.imp (P' := fun b => b ≠ wn6504.heap.size) (fun b hb _ => Nat.ne_of_lt hb))
          generalize (wn6504.alloc (.cells #[.int .i64 0, .int .i64 0, .int .u32 0, .int .u32 0, .int .u32 0, .int .i64 0, .slice none 0 0, .int .u32 0, .int .i64 0, .slice none 0 0, .bool false, .int .u32 0, .int .u32 0, .int .i64 0, .int .i64 0, .int .i64 0, .slice none 0 0] 30)) = wn6508 at *
          have D6503_6508 := Lib.hid (D6503_6504.out.below hb6508)
          have S6504q_6508 := Lib.hid (S6504q.out.below hb6508)
          have hS6508 : Below (wA.heap.size) wA wn6508 := (hH6504).trans (hb6508.mono (hH6504).size)
          refine hK.out _ _ hS6508 (fun hH6508 => ?_)
          have hH6508 : Below (wA.heap.size) wA wn6508 := hH6508
          clear hK K hS6508
          try simp only [Act.put, List.setIfInBounds_toArray, List.set_cons_zero, List.set_cons_succ]
          refine wpAnyH_ready (rs := [8]) (by kernel_rfl) (by simp) ?_
          refine AllReadyH.cons (o := { dst := none, op := Op.store 30 (Operand.tmp 7) (Operand.tmp 33), type := 0, pos := "more.go:22", after := #[{ on := 7, ground := Ground.data }, { on := 5, ground := Ground.data }, { on := 3, ground := Ground.chain }, { on := 0, ground := Ground.phase }, { on := 1, ground := Ground.phase }, { on := 2, ground := Ground.phase }, { on := 3, ground := Ground.phase }, { on := 4, ground := Ground.phase }, { on := 5, ground := Ground.phase }, { on := 6, ground := Ground.textOnly Departure.lateStores }, { on := 7, ground := Ground.phase }], guard := none }) rfl (fun K hK => ?_) AllReadyH.nil
          rw [if_pos (by rfl)]
          refine wp_store_row _ _ _ rfl wn6504.heap.size cz6504 rfl rfl _ _ BX6508.out I6504.out Z6504.out O6504.out ?_
          have hS6509 : Below (wA.heap.size) wA (wn6508.setRow wn6504.heap.size cz6504) := (below_setRow2 (hH6508) GE6508.out _)
          refine hK.out _ _ hS6509 (fun hH6509 => ?_)
          have hH6509 : Below (wA.heap.size) wA (wn6508.setRow wn6504.heap.size cz6504) := hH6509
          clear hK K hS6509
          refine wpAnyH_take (i := 9) (oi := { dst := some 8, op := Op.assign (Operand.tmp 34), type := 33, pos := "more.go:22", after := #[{ on := 6, ground := Ground.data }, { on := 8, ground := Ground.chain }, { on := 0, ground := Ground.phase }, { on := 1, ground := Ground.phase }, { on := 2, ground := Ground.phase }, { on := 3, ground := Ground.phase }, { on := 4, ground := Ground.phase }, { on := 5, ground := Ground.phase }, { on := 6, ground := Ground.phase }, { on := 7, ground := Ground.phase }, { on := 8, ground := Ground.phase }], guard := none }) (v := ?tkv6510) rfl (by kernel_rfl) (by kernel_rfl) (by kernel_rfl) (fun _ _ _ h => h) (Or.inl ⟨by rfl, ?tky6510⟩) hH6509 ?tkr6510
          case tky6510 => (intro w' hSw; clear hSw; go_simp; try with_reducible rfl)
          try simp only [Act.put, List.setIfInBounds_toArray, List.set_cons_zero, List.set_cons_succ]
          refine wpAnyH_done (by kernel_rfl) ?_ _
          refine NoPanic.normal ?_
          have hrow := setRow_heap _ _ _ cz6504 _ _ BX6508.out
          have hst := S6504q_6508.out.keep (w' := wn6508.setRow wn6504.heap.size cz6504) (by simp) (fun b hb _ => setRow_other _ _ _ _ hb)
          have HFIN := Lib.hid (And.intro hrow (And.intro (hst.imp (P' := fun _ => True) fun _ _ _ => trivial) hH6509))
          clear hrow hst
          go_wp2_with fail
          go_meet
          exact ⟨_, _, rfl, rfl, HFIN⟩
        · go_simp
          have hb6511 : Below wn6503.heap.size wn6503 (wn6503.alloc (.cells #[.int .i64 0, .int .i64 0, .int .u32 0, .int .u32 0, .int .u32 0, .int .i64 0, .slice none 0 0, .int .u32 0, .int .i64 0, .slice none 0 0, .bool false, .int .u32 0, .int .u32 0, .int .i64 0, .int .i64 0, .int .i64 0, .slice none 0 0] 30)) := (Below.refl _ _).alloc (Nat.le_refl _) _
          have BX6511 : Hid ((wn6503.alloc (.cells #[.int .i64 0, .int .i64 0, .int .u32 0, .int .u32 0, .int .u32 0, .int .i64 0, .slice none 0 0, .int .u32 0, .int .i64 0, .slice none 0 0, .bool false, .int .u32 0, .int .u32 0, .int .i64 0, .int .i64 0, .int .i64 0, .slice none 0 0] 30)).heap[wn6503.heap.size]? = some (.cells #[.int .i64 0, .int .i64 0, .int .u32 0, .int .u32 0, .int .u32 0, .int .i64 0, .slice none 0 0, .int .u32 0, .int .i64 0, .slice none 0 0, .bool false, .int .u32 0, .int .u32 0, .int .i64 0, .int .i64 0, .int .i64 0, .slice none 0 0] 30 (0, 0))) := Lib.hid (heap_alloc_new _ _)
          have LX6511 : Hid (wn6503.heap.size < (wn6503.alloc (.cells #[.int .i64 0, .int .i64 0, .int .u32 0, .int .u32 0, .int .u32 0, .int .i64 0, .slice none 0 0, .int .u32 0, .int .i64 0, .slice none 0 0, .bool false, .int .u32 0, .int .u32 0, .int .i64 0, .int .i64 0, .int .i64 0, .slice none 0 0] 30)).heap.size) := Lib.hid (by simp)
          have GE6511 : Hid (wA.heap.size ≤ wn6503.heap.size) := Lib.hid (hH6503).size
          generalize (wn6503.alloc (.cells #[.int .i64 0, .int .i64 0, .int .u32 0, .int .u32 0, .int .u32 0, .int .i64 0, .slice none 0 0, .int .u32 0, .int .i64 0, .slice none 0 0, .bool false, .int .u32 0, .int .u32 0, .int .i64 0, .int .i64 0, .int .i64 0, .slice none 0 0] 30)) = wn6511 at *
          have D6503_6511 := Lib.hid (D6503.out.below hb6511)
          have hS6511 : Below (wA.heap.size) wA wn6511 := (hH6503).trans (hb6511.mono (hH6503).size)
          refine hK.out _ _ hS6511 (fun hH6511 => ?_)
          have hH6511 : Below (wA.heap.size) wA wn6511 := hH6511
          clear hK K hS6511
          try simp only [Act.put, List.setIfInBounds_toArray, List.set_cons_zero, List.set_cons_succ]
          refine wpAnyH_ready (rs := [3]) (by kernel_rfl) (by simp) ?_
          refine AllReadyH.cons (o := { dst := some 32, op := Op.call { callee := Callee.value (Operand.func 24), args := #[Operand.tmp 30, Operand.tmp 31], argTypes := #[30, 28] }, type := 40, pos := "more.go:22", after := #[{ on := 1, ground := Ground.data }, { on := 2, ground := Ground.data }, { on := 1, ground := Ground.chain }], guard := none }) rfl (fun K hK => ?_) AllReadyH.nil
          go_simp
          refine (admitS_yes D6503_6511.out ((HE.out wn6511 (hH6511)).mn _ _ (.head _)) HR0.out).mono ?_
          rintro e' wn6512 ⟨cz6512, rfl, S6512o, hbo6512⟩
          have hb6512 := hbo6512.out
          have S6512 := Lib.hid (S6512o.out.imp (P' := fun b => b ≠ wn6503.heap.size) (fun b _ hb => Nat.ne_of_gt (Nat.lt_of_lt_of_le LX6511.out hb)))
          clear S6512o
          have I6512 := Lib.hid S6512.out.inf
          have O6512 := Lib.hid S6512.out.one
          have Z6512 : Hid (17 = cz6512.size) := Lib.hid S6512.out.size.symm
          rw [HAD.out] at S6512
          go_simp
          have D6503_6512 := Lib.hid (D6503_6511.out.below hb6512)
          have BX6511_6512 := Lib.hid ((hb6512.block wn6503.heap.size LX6511.out).trans BX6511.out)
          have LX6511_6512 := Lib.hid (Nat.lt_of_lt_of_le LX6511.out hb6512.size)
          have hS6512 : Below (wA.heap.size) wA wn6512 := (hH6511).trans (hb6512.mono (hH6511).size)
          refine hK.out _ _ hS6512 (fun hH6512 => ?_)
          have hH6512 : Below (wA.heap.size) wA wn6512 := hH6512
          clear hK K hS6512
          try simp only [Act.put, List.setIfInBounds_toArray, List.set_cons_zero, List.set_cons_succ]
          refine wpAnyH_take (i := 4) (oi := { dst := some 28, op := Op.move (Operand.tmp 32), type := 40, pos := "more.go:22", after := #[{ on := 3, ground := Ground.data }], guard := none }) (v := ?tkv6513) rfl (by kernel_rfl) (by kernel_rfl) (by kernel_rfl) (fun _ _ _ h => h) (Or.inl ⟨by rfl, ?tky6513⟩) hH6512 ?tkr6513
          case tky6513 => (intro w' hSw; clear hSw; go_simp; try with_reducible rfl)
          try simp only [Act.put, List.setIfInBounds_toArray, List.set_cons_zero, List.set_cons_succ]
          refine wpAnyH_take (i := 5) (oi := { dst := some 33, op := Op.extract (Operand.tmp 28) 0, type := 30, pos := "more.go:22", after := #[{ on := 4, ground := Ground.data }], guard := none }) (v := ?tkv6514) rfl (by kernel_rfl) (by kernel_rfl) (by kernel_rfl) (fun _ _ _ h => h) (Or.inl ⟨by rfl, ?tky6514⟩) hH6512 ?tkr6514
          case tky6514 => (intro w' hSw; clear hSw; go_simp; try with_reducible rfl)
          try simp only [Act.put, List.setIfInBounds_toArray, List.set_cons_zero, List.set_cons_succ]
          refine wpAnyH_take (i := 6) (oi := { dst := some 34, op := Op.extract (Operand.tmp 28) 1, type := 33, pos := "more.go:22", after := #[{ on := 4, ground := Ground.data }, { on := 8, ground := Ground.gcOnly Departure.lateStores }], guard := none }) (v := ?tkv6515) rfl (by kernel_rfl) (by kernel_rfl) (by kernel_rfl) (fun _ _ _ h => h) (Or.inl ⟨by rfl, ?tky6515⟩) hH6512 ?tkr6515
          case tky6515 => (intro w' hSw; clear hSw; go_simp; try with_reducible rfl)
          try simp only [Act.put, List.setIfInBounds_toArray, List.set_cons_zero, List.set_cons_succ]
          refine wpAnyH_ready (rs := [8]) (by kernel_rfl) (by simp) ?_
          refine AllReadyH.cons (o := { dst := none, op := Op.store 30 (Operand.tmp 7) (Operand.tmp 33), type := 0, pos := "more.go:22", after := #[{ on := 7, ground := Ground.data }, { on := 5, ground := Ground.data }, { on := 3, ground := Ground.chain }, { on := 0, ground := Ground.phase }, { on := 1, ground := Ground.phase }, { on := 2, ground := Ground.phase }, { on := 3, ground := Ground.phase }, { on := 4, ground := Ground.phase }, { on := 5, ground := Ground.phase }, { on := 6, ground := Ground.textOnly Departure.lateStores }, { on := 7, ground := Ground.phase }], guard := none }) rfl (fun K hK => ?_) AllReadyH.nil
          rw [if_pos (by rfl)]
          refine wp_store_row _ _ _ rfl wn6503.heap.size cz6512 rfl rfl _ _ BX6511_6512.out I6512.out Z6512.out O6512.out ?_
          have hS6516 : Below (wA.heap.size) wA (wn6512.setRow wn6503.heap.size cz6512) := (below_setRow2 (hH6512) GE6511.out _)
          refine hK.out _ _ hS6516 (fun hH6516 => ?_)
          have hH6516 : Below (wA.heap.size) wA (wn6512.setRow wn6503.heap.size cz6512) := hH6516
          clear hK K hS6516
          refine wpAnyH_take (i := 9) (oi := { dst := some 8, op := Op.assign (Operand.tmp 34), type := 33, pos := "more.go:22", after := #[{ on := 6, ground := Ground.data }, { on := 8, ground := Ground.chain }, { on := 0, ground := Ground.phase }, { on := 1, ground := Ground.phase }, { on := 2, ground := Ground.phase }, { on := 3, ground := Ground.phase }, { on := 4, ground := Ground.phase }, { on := 5, ground := Ground.phase }, { on := 6, ground := Ground.phase }, { on := 7, ground := Ground.phase }, { on := 8, ground := Ground.phase }], guard := none }) (v := ?tkv6517) rfl (by kernel_rfl) (by kernel_rfl) (by kernel_rfl) (fun _ _ _ h => h) (Or.inl ⟨by rfl, ?tky6517⟩) hH6516 ?tkr6517
          case tky6517 => (intro w' hSw; clear hSw; go_simp; try with_reducible rfl)
          try simp only [Act.put, List.setIfInBounds_toArray, List.set_cons_zero, List.set_cons_succ]
          refine wpAnyH_done (by kernel_rfl) ?_ _
          refine NoPanic.normal ?_
          have hrow := setRow_heap _ _ _ cz6512 _ _ BX6511_6512.out
          have hst := S6512.out.keep (w' := wn6512.setRow wn6503.heap.size cz6512) (by simp) (fun b hb _ => setRow_other _ _ _ _ hb)
          have HFIN := Lib.hid (And.intro hrow (And.intro (hst.imp (P' := fun _ => True) fun _ _ _ => trivial) hH6516))
          clear hrow hst
          go_wp2_with fail
          go_meet
          exact ⟨_, _, rfl, rfl, HFIN⟩
      · go_simp
        have hb6518 : Below wd6500.heap.size wd6500 (wd6500.alloc (.cells #[.int .i64 0, .int .i64 0, .int .u32 0, .int .u32 0, .int .u32 0, .int .i64 0, .slice none 0 0, .int .u32 0, .int .i64 0, .slice none 0 0, .bool false, .int .u32 0, .int .u32 0, .int .i64 0, .int .i64 0, .int .i64 0, .slice none 0 0] 30)) := (Below.refl _ _).alloc (Nat.le_refl _) _
        have BX6518 : Hid ((wd6500.alloc (.cells #[.int .i64 0, .int .i64 0, .int .u32 0, .int .u32 0, .int .u32 0, .int .i64 0, .slice none 0 0, .int .u32 0, .int .i64 0, .slice none 0 0, .bool false, .int .u32 0, .int .u32 0, .int .i64 0, .int .i64 0, .int .i64 0, .slice none 0 0] 30)).heap[wd6500.heap.size]? = some (.cells #[.int .i64 0, .int .i64 0, .int .u32 0, .int .u32 0, .int .u32 0, .int .i64 0, .slice none 0 0, .int .u32 0, .int .i64 0, .slice none 0 0, .bool false, .int .u32 0, .int .u32 0, .int .i64 0, .int .i64 0, .int .i64 0, .slice none 0 0] 30 (0, 0))) := Lib.hid (heap_alloc_new _ _)
        have LX6518 : Hid (wd6500.heap.size < (wd6500.alloc (.cells #[.int .i64 0, .int .i64 0, .int .u32 0, .int .u32 0, .int .u32 0, .int .i64 0, .slice none 0 0, .int .u32 0, .int .i64 0, .slice none 0 0, .bool false, .int .u32 0, .int .u32 0, .int .i64 0, .int .i64 0, .int .i64 0, .slice none 0 0] 30)).heap.size) := Lib.hid (by simp)
        have GE6518 : Hid (wA.heap.size ≤ wd6500.heap.size) := Lib.hid (hH0).size
        generalize (wd6500.alloc (.cells #[.int .i64 0, .int .i64 0, .int .u32 0, .int .u32 0, .int .u32 0, .int .i64 0, .slice none 0 0, .int .u32 0, .int .i64 0, .slice none 0 0, .bool false, .int .u32 0, .int .u32 0, .int .i64 0, .int .i64 0, .int .i64 0, .slice none 0 0] 30)) = wn6518 at *
        have hS6518 : Below (wA.heap.size) wA wn6518 := (hH0).trans (hb6518.mono (hH0).size)
        refine hK.out _ _ hS6518 (fun hH6518 => ?_)
        have hH6518 : Below (wA.heap.size) wA wn6518 := hH6518
        clear hK K hS6518
        try simp only [Act.put, List.setIfInBounds_toArray, List.set_cons_zero, List.set_cons_succ]
        refine wpAnyH_ready (rs := [1]) (by kernel_rfl) (by simp) ?_
        refine AllReadyH.cons (o := { dst := some 30, op := Op.call { callee := Callee.value (Operand.func 31), args := #[Operand.tmp 29], argTypes := #[30] }, type := 30, pos := "more.go:22", after := #[{ on := 0, ground := Ground.data }], guard := none }) rfl (fun K hK => ?_) AllReadyH.nil
        go_simp
        refine (dropS ((HE.out wn6518 (hH6518)).st _ _ (.head _)) HLT.out).mono ?_
        rintro e' wn6519 ⟨cd6519, rfl, D6519, hbo6519⟩
        have hb6519 := hbo6519.out
        go_simp
        have BX6518_6519 := Lib.hid ((hb6519.block wd6500.heap.size LX6518.out).trans BX6518.out)
        have LX6518_6519 := Lib.hid (Nat.lt_of_lt_of_le LX6518.out hb6519.size)
        have hS6519 : Below (wA.heap.size) wA wn6519 := (hH6518).trans (hb6519.mono (hH6518).size)
        refine hK.out _ _ hS6519 (fun hH6519 => ?_)
        have hH6519 : Below (wA.heap.size) wA wn6519 := hH6519
        clear hK K hS6519
        try simp only [Act.put, List.setIfInBounds_toArray, List.set_cons_zero, List.set_cons_succ]
        refine wpAnyH_ready (rs := [3]) (by kernel_rfl) (by simp) ?_
        refine AllReadyH.cons (o := { dst := some 32, op := Op.call { callee := Callee.value (Operand.func 24), args := #[Operand.tmp 30, Operand.tmp 31], argTypes := #[30, 28] }, type := 40, pos := "more.go:22", after := #[{ on := 1, ground := Ground.data }, { on := 2, ground := Ground.data }, { on := 1, ground := Ground.chain }], guard := none }) rfl (fun K hK => ?_) AllReadyH.nil
        go_simp
        refine (admitS_yes D6519.out ((HE.out wn6519 (hH6519)).mn _ _ (.head _)) HR0.out).mono ?_
        rintro e' wn6520 ⟨cz6520, rfl, S6520o, hbo6520⟩
        have hb6520 := hbo6520.out
        have S6520 := Lib.hid (S6520o.out.imp (P' := fun b => b ≠ wd6500.heap.size) (fun b _ hb => Nat.ne_of_gt (Nat.lt_of_lt_of_le LX6518_6519.out hb)))
        clear S6520o
        have I6520 := Lib.hid S6520.out.inf
        have O6520 := Lib.hid S6520.out.one
        have Z6520 : Hid (17 = cz6520.size) := Lib.hid S6520.out.size.symm
        rw [HAD.out] at S6520
        go_simp
        have BX6518_6520 := Lib.hid ((hb6520.block wd6500.heap.size LX6518_6519.out).trans BX6518_6519.out)
        have LX6518_6520 := Lib.hid (Nat.lt_of_lt_of_le LX6518_6519.out hb6520.size)
        have D6519_6520 := Lib.hid (D6519.out.below hb6520)
        have hS6520 : Below (wA.heap.size) wA wn6520 := (hH6519).trans (hb6520.mono (hH6519).size)
        refine hK.out _ _ hS6520 (fun hH6520 => ?_)
        have hH6520 : Below (wA.heap.size) wA wn6520 := hH6520
        clear hK K hS6520
        try simp only [Act.put, List.setIfInBounds_toArray, List.set_cons_zero, List.set_cons_succ]
        refine wpAnyH_take (i := 4) (oi := { dst := some 28, op := Op.move (Operand.tmp 32), type := 40, pos := "more.go:22", after := #[{ on := 3, ground := Ground.data }], guard := none }) (v := ?tkv6521) rfl (by kernel_rfl) (by kernel_rfl) (by kernel_rfl) (fun _ _ _ h => h) (Or.inl ⟨by rfl, ?tky6521⟩) hH6520 ?tkr6521
        case tky6521 => (intro w' hSw; clear hSw; go_simp; try with_reducible rfl)
        try simp only [Act.put, List.setIfInBounds_toArray, List.set_cons_zero, List.set_cons_succ]
        refine wpAnyH_take (i := 5) (oi := { dst := some 33, op := Op.extract (Operand.tmp 28) 0, type := 30, pos := "more.go:22", after := #[{ on := 4, ground := Ground.data }], guard := none }) (v := ?tkv6522) rfl (by kernel_rfl) (by kernel_rfl) (by kernel_rfl) (fun _ _ _ h => h) (Or.inl ⟨by rfl, ?tky6522⟩) hH6520 ?tkr6522
        case tky6522 => (intro w' hSw; clear hSw; go_simp; try with_reducible rfl)
        try simp only [Act.put, List.setIfInBounds_toArray, List.set_cons_zero, List.set_cons_succ]
        refine wpAnyH_take (i := 6) (oi := { dst := some 34, op := Op.extract (Operand.tmp 28) 1, type := 33, pos := "more.go:22", after := #[{ on := 4, ground := Ground.data }, { on := 8, ground := Ground.gcOnly Departure.lateStores }], guard := none }) (v := ?tkv6523) rfl (by kernel_rfl) (by kernel_rfl) (by kernel_rfl) (fun _ _ _ h => h) (Or.inl ⟨by rfl, ?tky6523⟩) hH6520 ?tkr6523
        case tky6523 => (intro w' hSw; clear hSw; go_simp; try with_reducible rfl)
        try simp only [Act.put, List.setIfInBounds_toArray, List.set_cons_zero, List.set_cons_succ]
        refine wpAnyH_ready (rs := [8]) (by kernel_rfl) (by simp) ?_
        refine AllReadyH.cons (o := { dst := none, op := Op.store 30 (Operand.tmp 7) (Operand.tmp 33), type := 0, pos := "more.go:22", after := #[{ on := 7, ground := Ground.data }, { on := 5, ground := Ground.data }, { on := 3, ground := Ground.chain }, { on := 0, ground := Ground.phase }, { on := 1, ground := Ground.phase }, { on := 2, ground := Ground.phase }, { on := 3, ground := Ground.phase }, { on := 4, ground := Ground.phase }, { on := 5, ground := Ground.phase }, { on := 6, ground := Ground.textOnly Departure.lateStores }, { on := 7, ground := Ground.phase }], guard := none }) rfl (fun K hK => ?_) AllReadyH.nil
        rw [if_pos (by rfl)]
        refine wp_store_row _ _ _ rfl wd6500.heap.size cz6520 rfl rfl _ _ BX6518_6520.out I6520.out Z6520.out O6520.out ?_
        have hS6524 : Below (wA.heap.size) wA (wn6520.setRow wd6500.heap.size cz6520) := (below_setRow2 (hH6520) GE6518.out _)
        refine hK.out _ _ hS6524 (fun hH6524 => ?_)
        have hH6524 : Below (wA.heap.size) wA (wn6520.setRow wd6500.heap.size cz6520) := hH6524
        clear hK K hS6524
        refine wpAnyH_take (i := 9) (oi := { dst := some 8, op := Op.assign (Operand.tmp 34), type := 33, pos := "more.go:22", after := #[{ on := 6, ground := Ground.data }, { on := 8, ground := Ground.chain }, { on := 0, ground := Ground.phase }, { on := 1, ground := Ground.phase }, { on := 2, ground := Ground.phase }, { on := 3, ground := Ground.phase }, { on := 4, ground := Ground.phase }, { on := 5, ground := Ground.phase }, { on := 6, ground := Ground.phase }, { on := 7, ground := Ground.phase }, { on := 8, ground := Ground.phase }], guard := none }) (v := ?tkv6525) rfl (by kernel_rfl) (by kernel_rfl) (by kernel_rfl) (fun _ _ _ h => h) (Or.inl ⟨by rfl, ?tky6525⟩) hH6524 ?tkr6525
        case tky6525 => (intro w' hSw; clear hSw; go_simp; try with_reducible rfl)
        try simp only [Act.put, List.setIfInBounds_toArray, List.set_cons_zero, List.set_cons_succ]
        refine wpAnyH_done (by kernel_rfl) ?_ _
        refine NoPanic.normal ?_
        have hrow := setRow_heap _ _ _ cz6520 _ _ BX6518_6520.out
        have hst := S6520.out.keep (w' := wn6520.setRow wd6500.heap.size cz6520) (by simp) (fun b hb _ => setRow_other _ _ _ _ hb)
        have HFIN := Lib.hid (And.intro hrow (And.intro (hst.imp (P' := fun _ => True) fun _ _ _ => trivial) hH6524))
        clear hrow hst
        go_wp2_with fail
        go_meet
        exact ⟨_, _, rfl, rfl, HFIN⟩
    case rest =>
      obtain ⟨g2, c2, rfl, rfl, hfin⟩ := hcut
      have EC := Lib.hid (((HE.out _ hfin.out.2.2).addSt hfin.out.2.1).addBx hfin.out.1)
      have I2 := Lib.hid hfin.out.2.1.inf
      have C23 := Lib.hid hfin.out.2.1.c3
      have C2o := Lib.hid hfin.out.2.1.c10
      simp only at C23 C2o
      have k3 := (EC.out.cell (.tail _ (.head _)) 3).trans C13'.out
      have hg0 := HG0.out
      obtain ⟨wC, rfl⟩ : ∃ x : World, x = wc := ⟨_, rfl⟩
      clear HE HRD HR0 hfin
      go_upto_region 9 with fail
      clear k3 hg0
      have HE : Hid (∀ W, Below wC.heap.size wC W → Env w W ((g2, c2, 30) :: [(w2.heap.size, c1, 30), (w.heap.size + 1, ms, 28), (w.heap.size, cs, 30)]) [(c2, { L with gen := L.gen + 2, on := true, m := M }), (c1, L.admitted M), (cs, L)] [(ms, M)]) := Lib.hid (fun W hW => EC.out.below hW)
      have F73 : Hid (∀ W, Below wC.heap.size wC W → W.cell? ⟨g2, 3, none⟩ = some (.int .u32 ((L.gen + 2 : Nat) : Int))) := Lib.hid (fun W hW => ((HE.out W hW).cell (.head _) 3).trans C23.out)
      have F7o : Hid (∀ W, Below wC.heap.size wC W → W.cell? ⟨g2, 10, none⟩ = some (.bool true)) := Lib.hid (fun W hW => ((HE.out W hW).cell (.head _) 10).trans C2o.out)
      have F53 : Hid (∀ W, Below wC.heap.size wC W → W.cell? ⟨w2.heap.size, 3, none⟩ = some (.int .u32 (G1 : Int))) := Lib.hid (fun W hW => ((HE.out W hW).cell (.tail _ (.head _)) 3).trans C13'.out)
      have F31 : Hid (∀ W, Below wC.heap.size wC W → W.cell? ⟨w.heap.size + 1, 1, none⟩ = some (.int .u32 (M.v : Int))) := Lib.hid (fun W hW => ((HE.out W hW).cell (.tail _ (.tail _ (.head _))) 1).trans HM1.out)
      generalize L.gen + 2 = G2 at *
      refine wp_region_noPanic ?_
      refine wp_region_held_drew (S := (fun W => Below (wC.heap.size) wC W)) (by kernel_rfl) (Below.refl _ _).drew (fun hH0 => ?_)
      have hH0 : Below (wC.heap.size) wC wC.drew := hH0
      generalize wC.drew = wd9000 at *
      refine wpAnyH_take (i := 0) (oi := { dst := some 43, op := Op.move (Operand.tmp 8), type := 33, pos := "more.go:26", after := #[], guard := none }) (v := ?tkv9001) rfl (by kernel_rfl) (by kernel_rfl) (by kernel_rfl) (fun _ _ _ h => h) (Or.inl ⟨by rfl, ?tky9001⟩) hH0 ?tkr9001
      case tky9001 => (intro w' hSw; clear hSw; go_simp; try with_reducible rfl)
      try simp only [Act.put, List.setIfInBounds_toArray, List.set_cons_zero, List.set_cons_succ]
      refine wpAnyH_take (i := 1) (oi := { dst := some 44, op := Op.binOp BinOp.eql 33 (Operand.tmp 43) (Operand.const (Value.int IntKind.i64 0)) 33, type := 4, pos := "more.go:26", after := #[{ on := 0, ground := Ground.data }], guard := none }) (v := ?tkv9002) rfl (by kernel_rfl) (by kernel_rfl) (by kernel_rfl) (fun _ _ _ h => h) (Or.inl ⟨by rfl, ?tky9002⟩) hH0 ?tkr9002
      case tky9002 => (intro w' hSw; clear hSw; go_simp; try with_reducible rfl)
      try simp only [Act.put, List.setIfInBounds_toArray, List.set_cons_zero, List.set_cons_succ]
      refine wpAnyH_take (i := 2) (oi := { dst := some 45, op := Op.move (Operand.tmp 44), type := 4, pos := "more.go:26", after := #[{ on := 1, ground := Ground.data }], guard := none }) (v := ?tkv9003) rfl (by kernel_rfl) (by kernel_rfl) (by kernel_rfl) (fun _ _ _ h => h) (Or.inl ⟨by rfl, ?tky9003⟩) hH0 ?tkr9003
      case tky9003 => (intro w' hSw; clear hSw; go_simp; try with_reducible rfl)
      try simp only [Act.put, List.setIfInBounds_toArray, List.set_cons_zero, List.set_cons_succ]
      refine wpAnyH_take (i := 3) (oi := { dst := some 46, op := Op.fieldAddr 30 (Operand.tmp 7) 3, type := 0, pos := "more.go:26", after := #[{ on := 2, ground := Ground.guard }], guard := some (2, true) }) (v := ?tkv9004) rfl (by kernel_rfl) (by kernel_rfl) (by kernel_rfl) (fun _ _ _ h => h) (Or.inl ⟨by rfl, ?tky9004⟩) hH0 ?tkr9004
      case tky9004 => (intro w' hSw; clear hSw; go_simp; try with_reducible rfl)
      try simp only [Act.put, List.setIfInBounds_toArray, List.set_cons_zero, List.set_cons_succ]
      refine wpAnyH_take (i := 4) (oi := { dst := some 47, op := Op.load 22 (Operand.tmp 46), type := 22, pos := "more.go:26", after := #[{ on := 3, ground := Ground.data }, { on := 2, ground := Ground.guard }], guard := some (2, true) }) (v := ?tkv9005) rfl (by kernel_rfl) (by kernel_rfl) (by kernel_rfl) (fun _ _ _ h => h) (Or.inl ⟨by rfl, ?tky9005⟩) hH0 ?tkr9005
      case tky9005 => (intro w' hSw; have z0 := F73.out _ hSw; have z1 := F53.out _ hSw; have z2 := F7o.out _ hSw; have z3 := F31.out _ hSw; clear hSw; go_simp; try with_reducible rfl)
      try simp only [Act.put, List.setIfInBounds_toArray, List.set_cons_zero, List.set_cons_succ]
      refine wpAnyH_take (i := 5) (oi := { dst := some 48, op := Op.fieldAddr 30 (Operand.tmp 5) 3, type := 0, pos := "more.go:26", after := #[{ on := 2, ground := Ground.guard }], guard := some (2, true) }) (v := ?tkv9006) rfl (by kernel_rfl) (by kernel_rfl) (by kernel_rfl) (fun _ _ _ h => h) (Or.inl ⟨by rfl, ?tky9006⟩) hH0 ?tkr9006
      case tky9006 => (intro w' hSw; clear hSw; go_simp; try with_reducible rfl)
      try simp only [Act.put, List.setIfInBounds_toArray, List.set_cons_zero, List.set_cons_succ]
      refine wpAnyH_take (i := 6) (oi := { dst := some 49, op := Op.load 22 (Operand.tmp 48), type := 22, pos := "more.go:26", after := #[{ on := 5, ground := Ground.data }, { on := 2, ground := Ground.guard }], guard := some (2, true) }) (v := ?tkv9007) rfl (by kernel_rfl) (by kernel_rfl) (by kernel_rfl) (fun _ _ _ h => h) (Or.inl ⟨by rfl, ?tky9007⟩) hH0 ?tkr9007
      case tky9007 => (intro w' hSw; have z0 := F73.out _ hSw; have z1 := F53.out _ hSw; have z2 := F7o.out _ hSw; have z3 := F31.out _ hSw; clear hSw; go_simp; try with_reducible rfl)
      try simp only [Act.put, List.setIfInBounds_toArray, List.set_cons_zero, List.set_cons_succ]
      refine wpAnyH_take (i := 7) (oi := { dst := some 50, op := Op.binOp BinOp.add 22 (Operand.tmp 49) (Operand.const (Value.int IntKind.u32 1)) 22, type := 22, pos := "more.go:26", after := #[{ on := 6, ground := Ground.data }, { on := 2, ground := Ground.guard }], guard := some (2, true) }) (v := ?tkv9008) rfl (by kernel_rfl) (by kernel_rfl) (by kernel_rfl) (fun _ _ _ h => h) (Or.inl ⟨by rfl, ?tky9008⟩) hH0 ?tkr9008
      case tky9008 => (intro w' hSw; have q1 := HWR.out; clear hSw; go_simp; try with_reducible rfl)
      try simp only [Act.put, List.setIfInBounds_toArray, List.set_cons_zero, List.set_cons_succ]
      refine wpAnyH_take (i := 8) (oi := { dst := some 51, op := Op.binOp BinOp.eql 22 (Operand.tmp 47) (Operand.tmp 50) 22, type := 4, pos := "more.go:26", after := #[{ on := 4, ground := Ground.data }, { on := 7, ground := Ground.data }, { on := 2, ground := Ground.guard }], guard := some (2, true) }) (v := ?tkv9009) rfl (by kernel_rfl) (by kernel_rfl) (by kernel_rfl) (fun _ _ _ h => h) (Or.inl ⟨by rfl, ?tky9009⟩) hH0 ?tkr9009
      case tky9009 => (intro w' hSw; clear hSw; go_simp; try with_reducible rfl)
      try simp only [Act.put, List.setIfInBounds_toArray, List.set_cons_zero, List.set_cons_succ]
      refine wpAnyH_take (i := 9) (oi := { dst := some 52, op := Op.pick (Operand.tmp 45) (Operand.tmp 51) (Operand.const (Value.bool false)), type := 4, pos := "more.go:26", after := #[{ on := 2, ground := Ground.data }, { on := 8, ground := Ground.data }], guard := none }) (v := ?tkv9010) rfl (by kernel_rfl) (by kernel_rfl) (by kernel_rfl) (fun _ _ _ h => h) (Or.inl ⟨by rfl, ?tky9010⟩) hH0 ?tkr9010
      case tky9010 => (intro w' hSw; clear hSw; go_simp; try with_reducible rfl)
      try simp only [Act.put, List.setIfInBounds_toArray, List.set_cons_zero, List.set_cons_succ]
      refine wpAnyH_take (i := 10) (oi := { dst := some 53, op := Op.move (Operand.tmp 52), type := 4, pos := "more.go:26", after := #[{ on := 9, ground := Ground.data }, { on := 2, ground := Ground.chain }], guard := none }) (v := ?tkv9011) rfl (by kernel_rfl) (by kernel_rfl) (by kernel_rfl) (fun _ _ _ h => h) (Or.inl ⟨by rfl, ?tky9011⟩) hH0 ?tkr9011
      case tky9011 => (intro w' hSw; clear hSw; go_simp; try with_reducible rfl)
      try simp only [Act.put, List.setIfInBounds_toArray, List.set_cons_zero, List.set_cons_succ]
      refine wpAnyH_take (i := 11) (oi := { dst := some 54, op := Op.fieldAddr 30 (Operand.tmp 7) 5, type := 0, pos := "more.go:26", after := #[{ on := 10, ground := Ground.guard }], guard := some (10, true) }) (v := ?tkv9012) rfl (by kernel_rfl) (by kernel_rfl) (by kernel_rfl) (fun _ _ _ h => h) (Or.inl ⟨by rfl, ?tky9012⟩) hH0 ?tkr9012
      case tky9012 => (intro w' hSw; clear hSw; go_simp; try with_reducible rfl)
      try simp only [Act.put, List.setIfInBounds_toArray, List.set_cons_zero, List.set_cons_succ]
      refine wpAnyH_take (i := 12) (oi := { dst := some 55, op := Op.load 4 (Operand.tmp 54), type := 4, pos := "more.go:26", after := #[{ on := 11, ground := Ground.data }, { on := 10, ground := Ground.guard }], guard := some (10, true) }) (v := ?tkv9013) rfl (by kernel_rfl) (by kernel_rfl) (by kernel_rfl) (fun _ _ _ h => h) (Or.inl ⟨by rfl, ?tky9013⟩) hH0 ?tkr9013
      case tky9013 => (intro w' hSw; have z0 := F73.out _ hSw; have z1 := F53.out _ hSw; have z2 := F7o.out _ hSw; have z3 := F31.out _ hSw; clear hSw; go_simp; try with_reducible rfl)
      try simp only [Act.put, List.setIfInBounds_toArray, List.set_cons_zero, List.set_cons_succ]
      refine wpAnyH_take (i := 13) (oi := { dst := some 56, op := Op.pick (Operand.tmp 53) (Operand.tmp 55) (Operand.const (Value.bool false)), type := 4, pos := "more.go:26", after := #[{ on := 10, ground := Ground.data }, { on := 12, ground := Ground.data }], guard := none }) (v := ?tkv9014) rfl (by kernel_rfl) (by kernel_rfl) (by kernel_rfl) (fun _ _ _ h => h) (Or.inl ⟨by rfl, ?tky9014⟩) hH0 ?tkr9014
      case tky9014 => (intro w' hSw; clear hSw; go_simp; try with_reducible rfl)
      try simp only [Act.put, List.setIfInBounds_toArray, List.set_cons_zero, List.set_cons_succ]
      refine wpAnyH_take (i := 14) (oi := { dst := some 57, op := Op.move (Operand.tmp 56), type := 4, pos := "more.go:26", after := #[{ on := 13, ground := Ground.data }, { on := 10, ground := Ground.chain }], guard := none }) (v := ?tkv9015) rfl (by kernel_rfl) (by kernel_rfl) (by kernel_rfl) (fun _ _ _ h => h) (Or.inl ⟨by rfl, ?tky9015⟩) hH0 ?tkr9015
      case tky9015 => (intro w' hSw; clear hSw; go_simp; try with_reducible rfl)
      try simp only [Act.put, List.setIfInBounds_toArray, List.set_cons_zero, List.set_cons_succ]
      refine wpAnyH_take (i := 15) (oi := { dst := some 58, op := Op.load 30 (Operand.tmp 7), type := 30, pos := "more.go:26", after := #[{ on := 14, ground := Ground.guard }], guard := some (14, true) }) (v := .agg c2) rfl (by kernel_rfl) (by kernel_rfl) (by kernel_rfl) (fun _ _ _ h => h) (yields_row (by rfl) _ _ rfl g2 rfl _ _ _ _ (fun W hW => (HE.out W hW).bx _ _ _ (.head _)) Try.underlying30 rfl I2.out) hH0 ?tkr9016
      try simp only [Act.put, List.setIfInBounds_toArray, List.set_cons_zero, List.set_cons_succ]
      refine wpAnyH_ready (rs := [16]) (by kernel_rfl) (by simp) ?_
      refine AllReadyH.cons (o := { dst := some 59, op := Op.call { callee := Callee.value (Operand.func 17), args := #[Operand.tmp 58], argTypes := #[30] }, type := 4, pos := "more.go:26", after := #[{ on := 15, ground := Ground.data }, { on := 14, ground := Ground.chain }, { on := 14, ground := Ground.guard }], guard := some (14, true) }) rfl (fun K hK => ?_) AllReadyH.nil
      go_simp
      refine (mayS ((HE.out wd9000 (hH0)).st _ _ (.head _))).mono ?_
      rintro e' wn9017 ⟨rfl, hb9017⟩
      rw [HMAY2.out]
      go_simp
      have hS9017 : Below (wC.heap.size) wC wn9017 := (hH0).trans (hb9017.mono (hH0).size)
      refine hK.out _ _ hS9017 (fun hH9017 => ?_)
      have hH9017 : Below (wC.heap.size) wC wn9017 := hH9017
      clear hK K hS9017
      try simp only [Act.put, List.setIfInBounds_toArray, List.set_cons_zero, List.set_cons_succ]
      refine wpAnyH_take (i := 17) (oi := { dst := some 60, op := Op.pick (Operand.tmp 57) (Operand.tmp 59) (Operand.const (Value.bool false)), type := 4, pos := "more.go:26", after := #[{ on := 14, ground := Ground.data }, { on := 16, ground := Ground.data }], guard := none }) (v := ?tkv9018) rfl (by kernel_rfl) (by kernel_rfl) (by kernel_rfl) (fun _ _ _ h => h) (Or.inl ⟨by rfl, ?tky9018⟩) hH9017 ?tkr9018
      case tky9018 => (intro w' hSw; clear hSw; go_simp; try with_reducible rfl)
      try simp only [Act.put, List.setIfInBounds_toArray, List.set_cons_zero, List.set_cons_succ]
      refine wpAnyH_take (i := 18) (oi := { dst := some 61, op := Op.move (Operand.tmp 60), type := 4, pos := "more.go:26", after := #[{ on := 17, ground := Ground.data }, { on := 16, ground := Ground.chain }], guard := none }) (v := ?tkv9019) rfl (by kernel_rfl) (by kernel_rfl) (by kernel_rfl) (fun _ _ _ h => h) (Or.inl ⟨by rfl, ?tky9019⟩) hH9017 ?tkr9019
      case tky9019 => (intro w' hSw; clear hSw; go_simp; try with_reducible rfl)
      try simp only [Act.put, List.setIfInBounds_toArray, List.set_cons_zero, List.set_cons_succ]
      refine wpAnyH_take (i := 19) (oi := { dst := some 62, op := Op.load 30 (Operand.tmp 5), type := 30, pos := "more.go:26", after := #[{ on := 18, ground := Ground.guard }], guard := some (18, true) }) (v := .agg c1) rfl (by kernel_rfl) (by kernel_rfl) (by kernel_rfl) (fun _ _ _ h => h) (yields_row (by rfl) _ _ rfl w2.heap.size rfl _ _ _ _ (fun W hW => (HE.out W hW).bx _ _ _ (.tail _ (.head _))) Try.underlying30 rfl I1.out) hH9017 ?tkr9020
      try simp only [Act.put, List.setIfInBounds_toArray, List.set_cons_zero, List.set_cons_succ]
      refine wpAnyH_take (i := 21) (oi := { dst := some 64, op := Op.fieldAddr 28 (Operand.tmp 3) 1, type := 0, pos := "more.go:26", after := #[{ on := 18, ground := Ground.guard }], guard := some (18, true) }) (v := ?tkv9021) rfl (by kernel_rfl) (by kernel_rfl) (by kernel_rfl) (fun _ _ _ h => h) (Or.inl ⟨by rfl, ?tky9021⟩) hH9017 ?tkr9021
      case tky9021 => (intro w' hSw; clear hSw; go_simp; try with_reducible rfl)
      try simp only [Act.put, List.setIfInBounds_toArray, List.set_cons_zero, List.set_cons_succ]
      refine wpAnyH_take (i := 22) (oi := { dst := some 65, op := Op.load 22 (Operand.tmp 64), type := 22, pos := "more.go:26", after := #[{ on := 21, ground := Ground.data }, { on := 18, ground := Ground.guard }], guard := some (18, true) }) (v := ?tkv9022) rfl (by kernel_rfl) (by kernel_rfl) (by kernel_rfl) (fun _ _ _ h => h) (Or.inl ⟨by rfl, ?tky9022⟩) hH9017 ?tkr9022
      case tky9022 => (intro w' hSw; have z0 := F73.out _ hSw; have z1 := F53.out _ hSw; have z2 := F7o.out _ hSw; have z3 := F31.out _ hSw; clear hSw; go_simp; try with_reducible rfl)
      try simp only [Act.put, List.setIfInBounds_toArray, List.set_cons_zero, List.set_cons_succ]
      refine wpAnyH_ready (rs := [20]) (by kernel_rfl) (by simp) ?_
      refine AllReadyH.cons (o := { dst := some 63, op := Op.call { callee := Callee.value (Operand.func 31), args := #[Operand.tmp 62], argTypes := #[30] }, type := 30, pos := "more.go:26", after := #[{ on := 19, ground := Ground.data }, { on := 18, ground := Ground.chain }, { on := 18, ground := Ground.guard }], guard := some (18, true) }) rfl (fun K hK => ?_) AllReadyH.nil
      go_simp
      refine (dropS ((HE.out wn9017 (hH9017)).st _ _ (.tail _ (.head _))) HLT.out).mono ?_
      rintro e' wn9023 ⟨cd9023, rfl, D9023, hbo9023⟩
      have hb9023 := hbo9023.out
      go_simp
      have hS9023 : Below (wC.heap.size) wC wn9023 := (hH9017).trans (hb9023.mono (hH9017).size)
      refine hK.out _ _ hS9023 (fun hH9023 => ?_)
      have hH9023 : Below (wC.heap.size) wC wn9023 := hH9023
      clear hK K hS9023
      try simp only [Act.put, List.setIfInBounds_toArray, List.set_cons_zero, List.set_cons_succ]
      refine wpAnyH_ready (rs := [23]) (by kernel_rfl) (by simp) ?_
      refine AllReadyH.cons (o := { dst := some 66, op := Op.call { callee := Callee.value (Operand.func 26), args := #[Operand.tmp 63, Operand.tmp 65], argTypes := #[30, 22] }, type := 4, pos := "more.go:26", after := #[{ on := 20, ground := Ground.data }, { on := 22, ground := Ground.data }, { on := 20, ground := Ground.chain }, { on := 18, ground := Ground.guard }], guard := some (18, true) }) rfl (fun K hK => ?_) AllReadyH.nil
      go_simp
      refine (newerS M.v D9023.out).mono ?_
      rintro e' wn9024 ⟨rfl, hb9024⟩
      rw [HN1.out]
      go_simp
      have D9023_9024 := Lib.hid (D9023.out.below hb9024)
      have hS9024 : Below (wC.heap.size) wC wn9024 := (hH9023).trans (hb9024.mono (hH9023).size)
      refine hK.out _ _ hS9024 (fun hH9024 => ?_)
      have hH9024 : Below (wC.heap.size) wC wn9024 := hH9024
      clear hK K hS9024
      try simp only [Act.put, List.setIfInBounds_toArray, List.set_cons_zero, List.set_cons_succ]
      refine wpAnyH_take (i := 24) (oi := { dst := some 67, op := Op.pick (Operand.tmp 61) (Operand.tmp 66) (Operand.const (Value.bool false)), type := 4, pos := "more.go:26", after := #[{ on := 18, ground := Ground.data }, { on := 23, ground := Ground.data }], guard := none }) (v := ?tkv9025) rfl (by kernel_rfl) (by kernel_rfl) (by kernel_rfl) (fun _ _ _ h => h) (Or.inl ⟨by rfl, ?tky9025⟩) hH9024 ?tkr9025
      case tky9025 => (intro w' hSw; clear hSw; go_simp; try with_reducible rfl)
      try simp only [Act.put, List.setIfInBounds_toArray, List.set_cons_zero, List.set_cons_succ]
      refine wpAnyH_take (i := 25) (oi := { dst := some 68, op := Op.move (Operand.tmp 67), type := 4, pos := "more.go:26", after := #[{ on := 24, ground := Ground.data }, { on := 23, ground := Ground.chain }], guard := none }) (v := ?tkv9026) rfl (by kernel_rfl) (by kernel_rfl) (by kernel_rfl) (fun _ _ _ h => h) (Or.inl ⟨by rfl, ?tky9026⟩) hH9024 ?tkr9026
      case tky9026 => (intro w' hSw; clear hSw; go_simp; try with_reducible rfl)
      try simp only [Act.put, List.setIfInBounds_toArray, List.set_cons_zero, List.set_cons_succ]
      refine wpAnyH_take (i := 26) (oi := { dst := some 69, op := Op.load 30 (Operand.tmp 5), type := 30, pos := "more.go:26", after := #[{ on := 25, ground := Ground.guard }], guard := some (25, true) }) (v := .agg c1) rfl (by kernel_rfl) (by kernel_rfl) (by kernel_rfl) (fun _ _ _ h => h) (yields_row (by rfl) _ _ rfl w2.heap.size rfl _ _ _ _ (fun W hW => (HE.out W hW).bx _ _ _ (.tail _ (.head _))) Try.underlying30 rfl I1.out) hH9024 ?tkr9027
      try simp only [Act.put, List.setIfInBounds_toArray, List.set_cons_zero, List.set_cons_succ]
      refine wpAnyH_take (i := 27) (oi := { dst := some 70, op := Op.fieldAddr 28 (Operand.tmp 3) 1, type := 0, pos := "more.go:26", after := #[{ on := 25, ground := Ground.guard }], guard := some (25, true) }) (v := ?tkv9028) rfl (by kernel_rfl) (by kernel_rfl) (by kernel_rfl) (fun _ _ _ h => h) (Or.inl ⟨by rfl, ?tky9028⟩) hH9024 ?tkr9028
      case tky9028 => (intro w' hSw; clear hSw; go_simp; try with_reducible rfl)
      try simp only [Act.put, List.setIfInBounds_toArray, List.set_cons_zero, List.set_cons_succ]
      refine wpAnyH_take (i := 28) (oi := { dst := some 71, op := Op.load 22 (Operand.tmp 70), type := 22, pos := "more.go:26", after := #[{ on := 27, ground := Ground.data }, { on := 25, ground := Ground.guard }], guard := some (25, true) }) (v := ?tkv9029) rfl (by kernel_rfl) (by kernel_rfl) (by kernel_rfl) (fun _ _ _ h => h) (Or.inl ⟨by rfl, ?tky9029⟩) hH9024 ?tkr9029
      case tky9029 => (intro w' hSw; have z0 := F73.out _ hSw; have z1 := F53.out _ hSw; have z2 := F7o.out _ hSw; have z3 := F31.out _ hSw; clear hSw; go_simp; try with_reducible rfl)
      try simp only [Act.put, List.setIfInBounds_toArray, List.set_cons_zero, List.set_cons_succ]
      refine wpAnyH_ready (rs := [29]) (by kernel_rfl) (by simp) ?_
      refine AllReadyH.cons (o := { dst := some 72, op := Op.call { callee := Callee.value (Operand.func 26), args := #[Operand.tmp 69, Operand.tmp 71], argTypes := #[30, 22] }, type := 4, pos := "more.go:26", after := #[{ on := 26, ground := Ground.data }, { on := 28, ground := Ground.data }, { on := 25, ground := Ground.chain }, { on := 25, ground := Ground.guard }], guard := some (25, true) }) rfl (fun K hK => ?_) AllReadyH.nil
      go_simp
      refine (newerS M.v ((HE.out wn9024 (hH9024)).st _ _ (.tail _ (.head _)))).mono ?_
      rintro e' wn9030 ⟨rfl, hb9030⟩
      rw [HN2.out]
      go_simp
      have D9023_9030 := Lib.hid (D9023_9024.out.below hb9030)
      have hS9030 : Below (wC.heap.size) wC wn9030 := (hH9024).trans (hb9030.mono (hH9024).size)
      refine hK.out _ _ hS9030 (fun hH9030 => ?_)
      have hH9030 : Below (wC.heap.size) wC wn9030 := hH9030
      clear hK K hS9030
      try simp only [Act.put, List.setIfInBounds_toArray, List.set_cons_zero, List.set_cons_succ]
      refine wpAnyH_take (i := 30) (oi := { dst := some 73, op := Op.unOp UnOp.not 4 (Operand.tmp 72), type := 4, pos := "more.go:26", after := #[{ on := 29, ground := Ground.data }, { on := 25, ground := Ground.guard }], guard := some (25, true) }) (v := ?tkv9031) rfl (by kernel_rfl) (by kernel_rfl) (by kernel_rfl) (fun _ _ _ h => h) (Or.inl ⟨by rfl, ?tky9031⟩) hH9030 ?tkr9031
      case tky9031 => (intro w' hSw; clear hSw; go_simp; try with_reducible rfl)
      try simp only [Act.put, List.setIfInBounds_toArray, List.set_cons_zero, List.set_cons_succ]
      refine wpAnyH_take (i := 31) (oi := { dst := some 74, op := Op.pick (Operand.tmp 68) (Operand.tmp 73) (Operand.const (Value.bool false)), type := 4, pos := "more.go:26", after := #[{ on := 25, ground := Ground.data }, { on := 30, ground := Ground.data }], guard := none }) (v := ?tkv9032) rfl (by kernel_rfl) (by kernel_rfl) (by kernel_rfl) (fun _ _ _ h => h) (Or.inl ⟨by rfl, ?tky9032⟩) hH9030 ?tkr9032
      case tky9032 => (intro w' hSw; clear hSw; go_simp; try with_reducible rfl)
      try simp only [Act.put, List.setIfInBounds_toArray, List.set_cons_zero, List.set_cons_succ]
      refine wpAnyH_take (i := 32) (oi := { dst := some 75, op := Op.move (Operand.tmp 74), type := 4, pos := "more.go:26", after := #[{ on := 31, ground := Ground.data }, { on := 29, ground := Ground.chain }], guard := none }) (v := ?tkv9033) rfl (by kernel_rfl) (by kernel_rfl) (by kernel_rfl) (fun _ _ _ h => h) (Or.inl ⟨by rfl, ?tky9033⟩) hH9030 ?tkr9033
      case tky9033 => (intro w' hSw; clear hSw; go_simp; try with_reducible rfl)
      try simp only [Act.put, List.setIfInBounds_toArray, List.set_cons_zero, List.set_cons_succ]
      refine wpAnyH_ready (rs := [33]) (by kernel_rfl) (by simp) ?_
      refine AllReadyH.cons (o := { dst := some 76, op := Op.call { callee := Callee.value (Operand.func 23), args := #[], argTypes := #[] }, type := 4, pos := "more.go:26", after := #[{ on := 32, ground := Ground.chain }, { on := 32, ground := Ground.guard }], guard := some (32, true) }) rfl (fun K hK => ?_) AllReadyH.nil
      go_simp
      refine (awake22_any wn9030).mono ?_
      rintro e' wn9034 ⟨rfl, hb9034⟩
      go_simp
      have D9023_9034 := Lib.hid (D9023_9030.out.below hb9034)
      have hS9034 : Below (wC.heap.size) wC wn9034 := (hH9030).trans (hb9034.mono (hH9030).size)
      refine hK.out _ _ hS9034 (fun hH9034 => ?_)
      have hH9034 : Below (wC.heap.size) wC wn9034 := hH9034
      clear hK K hS9034
      try simp only [Act.put, List.setIfInBounds_toArray, List.set_cons_zero, List.set_cons_succ]
      refine wpAnyH_take (i := 34) (oi := { dst := some 77, op := Op.pick (Operand.tmp 75) (Operand.tmp 76) (Operand.const (Value.bool false)), type := 4, pos := "more.go:26", after := #[{ on := 32, ground := Ground.data }, { on := 33, ground := Ground.data }], guard := none }) (v := ?tkv9035) rfl (by kernel_rfl) (by kernel_rfl) (by kernel_rfl) (fun _ _ _ h => h) (Or.inl ⟨by rfl, ?tky9035⟩) hH9034 ?tkr9035
      case tky9035 => (intro w' hSw; clear hSw; go_simp; try with_reducible rfl)
      try simp only [Act.put, List.setIfInBounds_toArray, List.set_cons_zero, List.set_cons_succ]
      refine wpAnyH_take (i := 35) (oi := { dst := some 4, op := Op.assign (Operand.tmp 77), type := 4, pos := "more.go:26", after := #[{ on := 34, ground := Ground.data }, { on := 33, ground := Ground.chain }, { on := 0, ground := Ground.phase }, { on := 1, ground := Ground.phase }, { on := 2, ground := Ground.phase }, { on := 3, ground := Ground.phase }, { on := 4, ground := Ground.phase }, { on := 5, ground := Ground.phase }, { on := 6, ground := Ground.phase }, { on := 7, ground := Ground.phase }, { on := 8, ground := Ground.phase }, { on := 9, ground := Ground.phase }, { on := 10, ground := Ground.phase }, { on := 11, ground := Ground.phase }, { on := 12, ground := Ground.phase }, { on := 13, ground := Ground.phase }, { on := 14, ground := Ground.phase }, { on := 15, ground := Ground.phase }, { on := 16, ground := Ground.phase }, { on := 17, ground := Ground.phase }, { on := 18, ground := Ground.phase }, { on := 19, ground := Ground.phase }, { on := 20, ground := Ground.phase }, { on := 21, ground := Ground.phase }, { on := 22, ground := Ground.phase }, { on := 23, ground := Ground.phase }, { on := 24, ground := Ground.phase }, { on := 25, ground := Ground.phase }, { on := 26, ground := Ground.phase }, { on := 27, ground := Ground.phase }, { on := 28, ground := Ground.phase }, { on := 29, ground := Ground.phase }, { on := 30, ground := Ground.phase }, { on := 31, ground := Ground.phase }, { on := 32, ground := Ground.phase }, { on := 33, ground := Ground.phase }, { on := 34, ground := Ground.phase }], guard := none }) (v := ?tkv9036) rfl (by kernel_rfl) (by kernel_rfl) (by kernel_rfl) (fun _ _ _ h => h) (Or.inl ⟨by rfl, ?tky9036⟩) hH9034 ?tkr9036
      case tky9036 => (intro w' hSw; clear hSw; go_simp; try with_reducible rfl)
      try simp only [Act.put, List.setIfInBounds_toArray, List.set_cons_zero, List.set_cons_succ]
      refine wpAnyH_done (by kernel_rfl) ?_ _
      refine NoPanic.normal ?_
      have HEND := Lib.hid ((HE.out _ (hH9034)).b)
      go_wp2_with fail
      go_ret
      exact ⟨rfl, HEND.out⟩
end Go.Proofs.Ytnbpjajgfpdddaa
