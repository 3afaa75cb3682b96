/- BootBack: slot 0 runs. -/
import Derived.Test.YtoclckfpbmglfaaDoorBootBk
namespace Go.Proofs.YtoclckfpbmglfaaDoor
open Go.RowKit Sh
set_option maxRecDepth 100000 in
set_option maxHeartbeats 25600000 in
theorem bback_0 (cs : Array Value) (k : Int) (L : LSt) (w : World) (ht : Tab w) (hs : IsSt w (fun _ => True) cs L) (hne : L.act ≠ 1) :
    Calls Tryd.prog 3 #[.agg cs, .int .i64 k] w fun e w' => e = .returned (.bool true) ∧ Below w.heap.size w w' := by
  have HNE0 := Lib.hid hne
  clear hne
  have HT := Lib.hid ht
  have e0 := ((Env.start w).addSt hs).alloc cs 30
  have E0 := Lib.hid e0
  have IN := Lib.hid hs.inf
  have ONE := Lib.hid hs.one
  have SZ : Hid (17 = cs.size) := Lib.hid hs.size.symm
  have CA := Lib.hid hs.c0
  have CT := Lib.hid hs.c1
  have CF := Lib.hid hs.c2
  have C10 := Lib.hid hs.c10
  have C12 := Lib.hid hs.c12
  clear e0 hs ht
  go_enter Tryd.func3, Tryd.ntmps3
  go_wp2_with ((with_reducible show wpList _ _ _ _ _ _); refine wpList_load_row (o := ⟨some 18, _, _, _, _, _⟩) rfl _ (.tmp 2) rfl (w.heap.size) rfl _ _ _ _ (E0.out.bx _ _ _ (.head _)) Tryd.underlying30 rfl IN.out ?_)
  generalize w.alloc (.cells cs 30) = w0 at *
  by_cases hl : L.light
  case neg =>
    refine (heavyS_yes (E0.out.st _ _ (.head _)) hl).mono ?_
    rintro e w1 ⟨rfl, hb1⟩
    have E1 := Lib.hid (E0.out.below hb1)
    clear hb1 E0
    go_wp2_with fail
    refine (awake21_any _ (HT.out.below E1.out.b HT.out.1)).mono ?_
    rintro e wz ⟨rfl, hbz⟩
    have hb := (E1.out.below hbz).b
    go_wp2_with fail
    go_ret
    exact ⟨rfl, hb⟩
  refine (heavyS_no (E0.out.st _ _ (.head _)) hl).mono ?_
  rintro e w1 ⟨rfl, hb1⟩
  have E1 := Lib.hid (E0.out.below hb1)
  clear hb1 E0
  go_wp2_with ((with_reducible show wpList _ _ _ _ _ _); refine wpList_load_rowG (o := ⟨some 22, _, _, _, _, _⟩) (by rfl) _ (.tmp 2) rfl (w.heap.size) rfl _ _ _ _ (E1.out.bx _ _ _ (.head _)) Tryd.underlying30 rfl IN.out ?_)
  refine (mayS (E1.out.st _ _ (.head _))).mono ?_
  rintro e w2 ⟨rfl, hb2⟩
  have E2 := Lib.hid (E1.out.below hb2)
  clear hb2 E1
  cases hm : L.may with
  | false =>
    go_wp2_with fail
    refine (awake21_any _ (HT.out.below E2.out.b HT.out.1)).mono ?_
    rintro e wz ⟨rfl, hbz⟩
    have hb := (E2.out.below hbz).b
    go_wp2_with fail
    go_ret
    exact ⟨rfl, hb⟩
  | true =>
  have HM := Lib.hid hm
  obtain ⟨hact, htr0, htr3⟩ := stMay_act hm
  clear hm
  go_wp2_with ((with_reducible show wpList _ _ _ _ _ _); refine wpList_load_row (o := ⟨some 28, _, _, _, _, _⟩) rfl _ (.tmp 2) rfl (w.heap.size) rfl _ _ _ _ (E2.out.bx _ _ _ (.head _)) Tryd.underlying30 rfl IN.out ?_)
  by_cases ho : L.on = true ∧ L.trial = 0
  case neg =>
    refine (activate_st (E2.out.st _ _ (.head _)) HM.out ho).mono ?_
    rintro e w3 ⟨rfl, hb3⟩
    have E3 := Lib.hid ((E2.out.below hb3).alloc zState 30)
    have k10 := (E3.out.cell (.tail _ (.head _)) 10).trans C10.out
    have k1 := (E3.out.cell (.tail _ (.head _)) 1).trans CT.out
    clear hb3 E2
    cases hon : L.on with
    | false =>
      rw [hon] at k10
      go_wp2_with ((with_reducible show wpList _ _ _ _ _ _); refine wpList_store_new rfl rfl _ (.tmp 5) (.tmp 30) rfl _ _ zState _ rfl rfl (by kernel_rfl) (by rfl) (by kernel_rfl) ?_)
      refine (awake21_any _ (HT.out.below E3.out.b HT.out.1)).mono ?_
      rintro e wz ⟨rfl, hbz⟩
      have hb := (E3.out.below hbz).b
      go_wp2_with fail
      go_ret
      exact ⟨rfl, hb⟩
    | true =>
      rw [hon] at k10
      have t0 : L.trial ≠ 0 := fun e => ho ⟨hon, e⟩
      have q0 : (L.trial != 0) = true := by simp [t0]
      have q1 : (L.trial == 0) = false := by simp [t0]
      go_wp2_with ((with_reducible show wpList _ _ _ _ _ _); refine wpList_store_new rfl rfl _ (.tmp 5) (.tmp 30) rfl _ _ zState _ rfl rfl (by kernel_rfl) (by rfl) (by kernel_rfl) ?_)
      refine (awake21_any _ (HT.out.below E3.out.b HT.out.1)).mono ?_
      rintro e wz ⟨rfl, hbz⟩
      have hb := (E3.out.below hbz).b
      go_wp2_with fail
      go_ret
      exact ⟨rfl, hb⟩
  obtain ⟨hon, htr⟩ := ho
  refine (activate_yes (E2.out.st _ _ (.head _)) HM.out hon htr).mono ?_
  rintro e w3 ⟨c5, rfl, S5, hb5⟩
  have E5 := Lib.hid (((E2.out.below hb5.out).addSt S5.out).alloc c5 30)
  have HMA := Lib.hid (activate_may HM.out hon)
  have I5 := Lib.hid S5.out.inf
  have O5 := Lib.hid S5.out.one
  have Z5 : Hid (17 = c5.size) := Lib.hid S5.out.size.symm
  have k10 : (w3.alloc (.cells c5 30)).cell? ⟨w.heap.size, 10, none⟩ = some (.bool true) := by rw [E5.out.cell (.tail _ (.head _)) 10, C10.out, hon]
  have k1 : (w3.alloc (.cells c5 30)).cell? ⟨w.heap.size, 1, none⟩ = some (.int .i64 0) := by rw [E5.out.cell (.tail _ (.head _)) 1, CT.out, htr]
  have ba : Below w3.heap.size w3 (w3.alloc (.cells c5 30)) := (Below.refl _ _).alloc (Nat.le_refl _) _
  have SO := Lib.hid ((((E2.out.st _ _ (.head _)).below hb5.out).imp (P' := fun b => b ≠ w3.heap.size) fun b hlt _ => Nat.ne_of_lt hlt).below ba)
  have S5B := Lib.hid ((S5.out.imp (P' := fun b => b ≠ w3.heap.size) fun b hlt _ => Nat.ne_of_lt hlt).below ba)
  have HG : Hid (w.heap.size < w3.heap.size) := Lib.hid (Nat.lt_of_lt_of_le (Array.getElem?_eq_some_iff.1 (E2.out.bx _ _ _ (.head _))).1 hb5.out.size)
  clear E2 S5 hb5 htr0 htr3 ba
  go_upto_region 6 with ((with_reducible show wpList _ _ _ _ _ _); refine wpList_store_new rfl rfl _ (.tmp 5) (.tmp 30) rfl _ _ c5 _ rfl rfl I5.out Z5.out O5.out ?_)
  clear k10 k1
  generalize w3.alloc (.cells c5 30) = wB at *
  generalize w3.heap.size = g5 at *
  have hu : 0 ≤ IntKind.u64.wrap k := by rw [IntKind.wrap_u64]; omega
  obtain ⟨J, hJ⟩ : ∃ J : Nat, (IntKind.u64.wrap k) % 4 = (J : Int) := ⟨((IntKind.u64.wrap k) % 4).toNat, by omega⟩
  have hJ4 : J < 4 := by omega
  have HJ : Hid ((IntKind.u64.wrap k).tmod 4 = (J : Int)) := Lib.hid (by rw [Int.tmod_eq_emod_of_nonneg hu]; exact hJ)
  have HJ2 := Lib.hid hJ
  have eJ : IntKind.i64.wrap (J : Int) = (J : Int) := IntWalk.i64_in _ (by omega)
  clear hu hJ
  rcases hact with ha | ha
  · have HA := Lib.hid ha
    have HF : Hid (∀ W, Below wB.heap.size wB W → W.cell? ⟨g5, 0, none⟩ = some (.int .i64 1) ∧ W.cell? ⟨g5, 1, none⟩ = some (.int .i64 3) ∧ W.cell? ⟨g5, 10, none⟩ = some (.bool false) ∧ W.cell? ⟨g5, 7, none⟩ = some (.int .u32 (L.m.v : Int)) ∧ W.cell? ⟨w.heap.size, 0, none⟩ = some (.int .i64 0) ∧ W.cell? ⟨w.heap.size, 12, none⟩ = some (.int .u32 (L.m.v : Int))) := Lib.hid fun W hW => by
      have e := E5.out.below hW
      have s5 := e.st _ _ (.head _)
      have hA : L.activate = { L with act := 1 - L.act, trial := 3, on := false, m := LMan.zero, v1 := L.m.v, l1 := L.m.l, h1 := L.m.h } := by unfold LSt.activate; rw [ha]; rfl
      refine ⟨(e.cell (.head _) 0).trans (s5.c0.trans ?_), (e.cell (.head _) 1).trans (s5.c1.trans ?_), (e.cell (.head _) 10).trans (s5.c10.trans ?_), (e.cell (.head _) 7).trans (s5.c7.trans ?_), (e.cell (.tail _ (.head _)) 0).trans (CA.out.trans ?_), (e.cell (.tail _ (.head _)) 12).trans C12.out⟩
      · rw [hA, ha]; rfl
      · rw [hA]
      · rw [hA]
      · rw [hA]
      · rw [ha]
    have HE : Hid (∀ W, Below wB.heap.size wB W → Env w W [(g5, c5, 30), (w.heap.size, cs, 30)] [(c5, L.activate), (cs, L)] []) := Lib.hid fun W hW => E5.out.below hW
    clear E5 ha
    go_cut [80] (fun s80 wx => s80 = .bool false ∧ Hid (Env w wx [(g5, c5, 30), (w.heap.size, cs, 30)] [(c5, L.activate), (cs, L)] [] ∧ Below wB.heap.size wB wx))
    case first =>
      refine wp_region_noPanic ?_
      refine wp_region_held_drew (S := (fun W => Below (wB.heap.size) wB W)) (by kernel_rfl) (Below.refl _ _).drew (fun hH0 => ?_)
      have hH0 : Below (wB.heap.size) wB wB.drew := hH0
      generalize wB.drew = wd3000 at *
      refine wpAnyH_take (i := 0) (oi := { dst := some 45, op := Op.move (Operand.tmp 6), type := 34, pos := "law.go:48", after := #[], guard := none }) (v := ?tkv3001) rfl (by kernel_rfl) (by kernel_rfl) (by kernel_rfl) (fun _ _ _ h => h) (Or.inl ⟨by rfl, ?tky3001⟩) hH0 ?tkr3001
      case tky3001 => (intro w' hSw; clear hSw; go_simp; try with_reducible rfl)
      try simp only [Act.put, List.setIfInBounds_toArray, List.set_cons_zero, List.set_cons_succ]
      refine wpAnyH_take (i := 1) (oi := { dst := some 46, op := Op.binOp BinOp.neq 34 (Operand.tmp 45) (Operand.const (Value.int IntKind.i64 0)) 34, type := 4, pos := "law.go:48", after := #[{ on := 0, ground := Ground.data }], guard := none }) (v := ?tkv3002) rfl (by kernel_rfl) (by kernel_rfl) (by kernel_rfl) (fun _ _ _ h => h) (Or.inl ⟨by rfl, ?tky3002⟩) hH0 ?tkr3002
      case tky3002 => (intro w' hSw; clear hSw; go_simp; try with_reducible rfl)
      try simp only [Act.put, List.setIfInBounds_toArray, List.set_cons_zero, List.set_cons_succ]
      refine wpAnyH_take (i := 2) (oi := { dst := some 47, op := Op.move (Operand.tmp 46), type := 4, pos := "law.go:48", after := #[{ on := 1, ground := Ground.data }], guard := none }) (v := ?tkv3003) rfl (by kernel_rfl) (by kernel_rfl) (by kernel_rfl) (fun _ _ _ h => h) (Or.inl ⟨by rfl, ?tky3003⟩) hH0 ?tkr3003
      case tky3003 => (intro w' hSw; clear hSw; go_simp; try with_reducible rfl)
      try simp only [Act.put, List.setIfInBounds_toArray, List.set_cons_zero, List.set_cons_succ]
      refine wpAnyH_take (i := 3) (oi := { dst := some 48, op := Op.load 30 (Operand.tmp 5), type := 30, pos := "law.go:48", after := #[{ on := 2, ground := Ground.guard }], guard := some (2, false) }) (v := .agg c5) rfl (by kernel_rfl) (by kernel_rfl) (by kernel_rfl) (fun _ _ _ h => h) (yields_row (by rfl) _ _ rfl (g5) rfl _ _ _ _ (fun W hW => (HE.out W hW).bx _ _ _ (.head _)) Tryd.underlying30 rfl I5.out) hH0 ?tkr3004
      try simp only [Act.put, List.setIfInBounds_toArray, List.set_cons_zero, List.set_cons_succ]
      refine wpAnyH_ready (rs := [4]) (by kernel_rfl) (by simp) ?_
      refine AllReadyH.cons (o := { dst := some 49, op := Op.call { callee := Callee.value (Operand.func 6), args := #[Operand.tmp 48], argTypes := #[30] }, type := 4, pos := "law.go:48", after := #[{ on := 3, ground := Ground.data }, { on := 2, ground := Ground.chain }, { on := 2, ground := Ground.guard }], guard := some (2, false) }) rfl (fun K hK => ?_) AllReadyH.nil
      go_simp
      refine (mayS ((HE.out wd3000 (hH0)).st _ _ (.head _))).mono ?_
      rintro e' wn3005 ⟨rfl, hb3005⟩
      rw [HMA.out]
      go_simp
      have hS3005 : Below (wB.heap.size) wB wn3005 := (hH0).trans (hb3005.mono (hH0).size)
      refine hK.out _ _ hS3005 (fun hH3005 => ?_)
      have hH3005 : Below (wB.heap.size) wB wn3005 := hH3005
      clear hK K hS3005
      try simp only [Act.put, List.setIfInBounds_toArray, List.set_cons_zero, List.set_cons_succ]
      refine wpAnyH_take (i := 5) (oi := { dst := some 50, op := Op.unOp UnOp.not 4 (Operand.tmp 49), type := 4, pos := "law.go:48", after := #[{ on := 4, ground := Ground.data }, { on := 2, ground := Ground.guard }], guard := some (2, false) }) (v := ?tkv3006) rfl (by kernel_rfl) (by kernel_rfl) (by kernel_rfl) (fun _ _ _ h => h) (Or.inl ⟨by rfl, ?tky3006⟩) hH3005 ?tkr3006
      case tky3006 => (intro w' hSw; clear hSw; go_simp; try with_reducible rfl)
      try simp only [Act.put, List.setIfInBounds_toArray, List.set_cons_zero, List.set_cons_succ]
      refine wpAnyH_take (i := 6) (oi := { dst := some 51, op := Op.pick (Operand.tmp 47) (Operand.const (Value.bool true)) (Operand.tmp 50), type := 4, pos := "law.go:48", after := #[{ on := 2, ground := Ground.data }, { on := 5, ground := Ground.data }], guard := none }) (v := ?tkv3007) rfl (by kernel_rfl) (by kernel_rfl) (by kernel_rfl) (fun _ _ _ h => h) (Or.inl ⟨by rfl, ?tky3007⟩) hH3005 ?tkr3007
      case tky3007 => (intro w' hSw; clear hSw; go_simp; try with_reducible rfl)
      try simp only [Act.put, List.setIfInBounds_toArray, List.set_cons_zero, List.set_cons_succ]
      refine wpAnyH_take (i := 7) (oi := { dst := some 52, op := Op.move (Operand.tmp 51), type := 4, pos := "law.go:48", after := #[{ on := 6, ground := Ground.data }, { on := 4, ground := Ground.chain }], guard := none }) (v := ?tkv3008) rfl (by kernel_rfl) (by kernel_rfl) (by kernel_rfl) (fun _ _ _ h => h) (Or.inl ⟨by rfl, ?tky3008⟩) hH3005 ?tkr3008
      case tky3008 => (intro w' hSw; clear hSw; go_simp; try with_reducible rfl)
      try simp only [Act.put, List.setIfInBounds_toArray, List.set_cons_zero, List.set_cons_succ]
      refine wpAnyH_take (i := 8) (oi := { dst := some 53, op := Op.fieldAddr 30 (Operand.tmp 5) 0, type := 0, pos := "law.go:48", after := #[{ on := 7, ground := Ground.guard }], guard := some (7, false) }) (v := ?tkv3009) rfl (by kernel_rfl) (by kernel_rfl) (by kernel_rfl) (fun _ _ _ h => h) (Or.inl ⟨by rfl, ?tky3009⟩) hH3005 ?tkr3009
      case tky3009 => (intro w' hSw; clear hSw; go_simp; try with_reducible rfl)
      try simp only [Act.put, List.setIfInBounds_toArray, List.set_cons_zero, List.set_cons_succ]
      refine wpAnyH_take (i := 9) (oi := { dst := some 54, op := Op.load 3 (Operand.tmp 53), type := 3, pos := "law.go:48", after := #[{ on := 8, ground := Ground.data }, { on := 7, ground := Ground.guard }], guard := some (7, false) }) (v := ?tkv3010) rfl (by kernel_rfl) (by kernel_rfl) (by kernel_rfl) (fun _ _ _ h => h) (Or.inl ⟨by rfl, ?tky3010⟩) hH3005 ?tkr3010
      case tky3010 => (intro w' hSw; have z0 := HF.out _ hSw; clear hSw; go_simp; try with_reducible rfl)
      try simp only [Act.put, List.setIfInBounds_toArray, List.set_cons_zero, List.set_cons_succ]
      refine wpAnyH_take (i := 10) (oi := { dst := some 55, op := Op.fieldAddr 30 (Operand.tmp 2) 0, type := 0, pos := "law.go:48", after := #[{ on := 7, ground := Ground.guard }], guard := some (7, false) }) (v := ?tkv3011) rfl (by kernel_rfl) (by kernel_rfl) (by kernel_rfl) (fun _ _ _ h => h) (Or.inl ⟨by rfl, ?tky3011⟩) hH3005 ?tkr3011
      case tky3011 => (intro w' hSw; clear hSw; go_simp; try with_reducible rfl)
      try simp only [Act.put, List.setIfInBounds_toArray, List.set_cons_zero, List.set_cons_succ]
      refine wpAnyH_take (i := 11) (oi := { dst := some 56, op := Op.load 3 (Operand.tmp 55), type := 3, pos := "law.go:48", after := #[{ on := 10, ground := Ground.data }, { on := 7, ground := Ground.guard }], guard := some (7, false) }) (v := ?tkv3012) rfl (by kernel_rfl) (by kernel_rfl) (by kernel_rfl) (fun _ _ _ h => h) (Or.inl ⟨by rfl, ?tky3012⟩) hH3005 ?tkr3012
      case tky3012 => (intro w' hSw; have z0 := HF.out _ hSw; clear hSw; go_simp; try with_reducible rfl)
      try simp only [Act.put, List.setIfInBounds_toArray, List.set_cons_zero, List.set_cons_succ]
      refine wpAnyH_take (i := 12) (oi := { dst := some 57, op := Op.binOp BinOp.sub 3 (Operand.const (Value.int IntKind.i64 1)) (Operand.tmp 56) 3, type := 3, pos := "law.go:48", after := #[{ on := 11, ground := Ground.data }, { on := 7, ground := Ground.guard }], guard := some (7, false) }) (v := ?tkv3013) rfl (by kernel_rfl) (by kernel_rfl) (by kernel_rfl) (fun _ _ _ h => h) (Or.inl ⟨by rfl, ?tky3013⟩) hH3005 ?tkr3013
      case tky3013 => (intro w' hSw; clear hSw; go_simp; try with_reducible rfl)
      try simp only [Act.put, List.setIfInBounds_toArray, List.set_cons_zero, List.set_cons_succ]
      refine wpAnyH_take (i := 13) (oi := { dst := some 58, op := Op.binOp BinOp.neq 3 (Operand.tmp 54) (Operand.tmp 57) 3, type := 4, pos := "law.go:48", after := #[{ on := 9, ground := Ground.data }, { on := 12, ground := Ground.data }, { on := 7, ground := Ground.guard }], guard := some (7, false) }) (v := ?tkv3014) rfl (by kernel_rfl) (by kernel_rfl) (by kernel_rfl) (fun _ _ _ h => h) (Or.inl ⟨by rfl, ?tky3014⟩) hH3005 ?tkr3014
      case tky3014 => (intro w' hSw; clear hSw; go_simp; try with_reducible rfl)
      try simp only [Act.put, List.setIfInBounds_toArray, List.set_cons_zero, List.set_cons_succ]
      refine wpAnyH_take (i := 14) (oi := { dst := some 59, op := Op.pick (Operand.tmp 52) (Operand.const (Value.bool true)) (Operand.tmp 58), type := 4, pos := "law.go:48", after := #[{ on := 7, ground := Ground.data }, { on := 13, ground := Ground.data }], guard := none }) (v := ?tkv3015) rfl (by kernel_rfl) (by kernel_rfl) (by kernel_rfl) (fun _ _ _ h => h) (Or.inl ⟨by rfl, ?tky3015⟩) hH3005 ?tkr3015
      case tky3015 => (intro w' hSw; clear hSw; go_simp; try with_reducible rfl)
      try simp only [Act.put, List.setIfInBounds_toArray, List.set_cons_zero, List.set_cons_succ]
      refine wpAnyH_take (i := 15) (oi := { dst := some 60, op := Op.move (Operand.tmp 59), type := 4, pos := "law.go:48", after := #[{ on := 14, ground := Ground.data }, { on := 7, ground := Ground.chain }], guard := none }) (v := ?tkv3016) rfl (by kernel_rfl) (by kernel_rfl) (by kernel_rfl) (fun _ _ _ h => h) (Or.inl ⟨by rfl, ?tky3016⟩) hH3005 ?tkr3016
      case tky3016 => (intro w' hSw; clear hSw; go_simp; try with_reducible rfl)
      try simp only [Act.put, List.setIfInBounds_toArray, List.set_cons_zero, List.set_cons_succ]
      refine wpAnyH_take (i := 16) (oi := { dst := some 61, op := Op.fieldAddr 30 (Operand.tmp 5) 1, type := 0, pos := "law.go:48", after := #[{ on := 15, ground := Ground.guard }], guard := some (15, false) }) (v := ?tkv3017) rfl (by kernel_rfl) (by kernel_rfl) (by kernel_rfl) (fun _ _ _ h => h) (Or.inl ⟨by rfl, ?tky3017⟩) hH3005 ?tkr3017
      case tky3017 => (intro w' hSw; clear hSw; go_simp; try with_reducible rfl)
      try simp only [Act.put, List.setIfInBounds_toArray, List.set_cons_zero, List.set_cons_succ]
      refine wpAnyH_take (i := 17) (oi := { dst := some 62, op := Op.load 3 (Operand.tmp 61), type := 3, pos := "law.go:48", after := #[{ on := 16, ground := Ground.data }, { on := 15, ground := Ground.guard }], guard := some (15, false) }) (v := ?tkv3018) rfl (by kernel_rfl) (by kernel_rfl) (by kernel_rfl) (fun _ _ _ h => h) (Or.inl ⟨by rfl, ?tky3018⟩) hH3005 ?tkr3018
      case tky3018 => (intro w' hSw; have z0 := HF.out _ hSw; clear hSw; go_simp; try with_reducible rfl)
      try simp only [Act.put, List.setIfInBounds_toArray, List.set_cons_zero, List.set_cons_succ]
      refine wpAnyH_take (i := 18) (oi := { dst := some 63, op := Op.binOp BinOp.neq 3 (Operand.tmp 62) (Operand.const (Value.int IntKind.i64 3)) 3, type := 4, pos := "law.go:48", after := #[{ on := 17, ground := Ground.data }, { on := 15, ground := Ground.guard }], guard := some (15, false) }) (v := ?tkv3019) rfl (by kernel_rfl) (by kernel_rfl) (by kernel_rfl) (fun _ _ _ h => h) (Or.inl ⟨by rfl, ?tky3019⟩) hH3005 ?tkr3019
      case tky3019 => (intro w' hSw; clear hSw; go_simp; try with_reducible rfl)
      try simp only [Act.put, List.setIfInBounds_toArray, List.set_cons_zero, List.set_cons_succ]
      refine wpAnyH_take (i := 19) (oi := { dst := some 64, op := Op.pick (Operand.tmp 60) (Operand.const (Value.bool true)) (Operand.tmp 63), type := 4, pos := "law.go:48", after := #[{ on := 15, ground := Ground.data }, { on := 18, ground := Ground.data }], guard := none }) (v := ?tkv3020) rfl (by kernel_rfl) (by kernel_rfl) (by kernel_rfl) (fun _ _ _ h => h) (Or.inl ⟨by rfl, ?tky3020⟩) hH3005 ?tkr3020
      case tky3020 => (intro w' hSw; clear hSw; go_simp; try with_reducible rfl)
      try simp only [Act.put, List.setIfInBounds_toArray, List.set_cons_zero, List.set_cons_succ]
      refine wpAnyH_take (i := 20) (oi := { dst := some 65, op := Op.move (Operand.tmp 64), type := 4, pos := "law.go:48", after := #[{ on := 19, ground := Ground.data }, { on := 15, ground := Ground.chain }], guard := none }) (v := ?tkv3021) rfl (by kernel_rfl) (by kernel_rfl) (by kernel_rfl) (fun _ _ _ h => h) (Or.inl ⟨by rfl, ?tky3021⟩) hH3005 ?tkr3021
      case tky3021 => (intro w' hSw; clear hSw; go_simp; try with_reducible rfl)
      try simp only [Act.put, List.setIfInBounds_toArray, List.set_cons_zero, List.set_cons_succ]
      refine wpAnyH_take (i := 21) (oi := { dst := some 66, op := Op.fieldAddr 30 (Operand.tmp 5) 5, type := 0, pos := "law.go:48", after := #[{ on := 20, ground := Ground.guard }], guard := some (20, false) }) (v := ?tkv3022) rfl (by kernel_rfl) (by kernel_rfl) (by kernel_rfl) (fun _ _ _ h => h) (Or.inl ⟨by rfl, ?tky3022⟩) hH3005 ?tkr3022
      case tky3022 => (intro w' hSw; clear hSw; go_simp; try with_reducible rfl)
      try simp only [Act.put, List.setIfInBounds_toArray, List.set_cons_zero, List.set_cons_succ]
      refine wpAnyH_take (i := 22) (oi := { dst := some 67, op := Op.load 4 (Operand.tmp 66), type := 4, pos := "law.go:48", after := #[{ on := 21, ground := Ground.data }, { on := 20, ground := Ground.guard }], guard := some (20, false) }) (v := ?tkv3023) rfl (by kernel_rfl) (by kernel_rfl) (by kernel_rfl) (fun _ _ _ h => h) (Or.inl ⟨by rfl, ?tky3023⟩) hH3005 ?tkr3023
      case tky3023 => (intro w' hSw; have z0 := HF.out _ hSw; clear hSw; go_simp; try with_reducible rfl)
      try simp only [Act.put, List.setIfInBounds_toArray, List.set_cons_zero, List.set_cons_succ]
      refine wpAnyH_take (i := 23) (oi := { dst := some 68, op := Op.pick (Operand.tmp 65) (Operand.const (Value.bool true)) (Operand.tmp 67), type := 4, pos := "law.go:48", after := #[{ on := 20, ground := Ground.data }, { on := 22, ground := Ground.data }], guard := none }) (v := ?tkv3024) rfl (by kernel_rfl) (by kernel_rfl) (by kernel_rfl) (fun _ _ _ h => h) (Or.inl ⟨by rfl, ?tky3024⟩) hH3005 ?tkr3024
      case tky3024 => (intro w' hSw; clear hSw; go_simp; try with_reducible rfl)
      try simp only [Act.put, List.setIfInBounds_toArray, List.set_cons_zero, List.set_cons_succ]
      refine wpAnyH_take (i := 24) (oi := { dst := some 69, op := Op.move (Operand.tmp 68), type := 4, pos := "law.go:48", after := #[{ on := 23, ground := Ground.data }, { on := 20, ground := Ground.chain }], guard := none }) (v := ?tkv3025) rfl (by kernel_rfl) (by kernel_rfl) (by kernel_rfl) (fun _ _ _ h => h) (Or.inl ⟨by rfl, ?tky3025⟩) hH3005 ?tkr3025
      case tky3025 => (intro w' hSw; clear hSw; go_simp; try with_reducible rfl)
      try simp only [Act.put, List.setIfInBounds_toArray, List.set_cons_zero, List.set_cons_succ]
      refine wpAnyH_take (i := 25) (oi := { dst := some 70, op := Op.fieldAddr 30 (Operand.tmp 5) 0, type := 0, pos := "law.go:48", after := #[{ on := 24, ground := Ground.guard }], guard := some (24, false) }) (v := ?tkv3026) rfl (by kernel_rfl) (by kernel_rfl) (by kernel_rfl) (fun _ _ _ h => h) (Or.inl ⟨by rfl, ?tky3026⟩) hH3005 ?tkr3026
      case tky3026 => (intro w' hSw; clear hSw; go_simp; try with_reducible rfl)
      try simp only [Act.put, List.setIfInBounds_toArray, List.set_cons_zero, List.set_cons_succ]
      refine wpAnyH_take (i := 26) (oi := { dst := some 71, op := Op.load 3 (Operand.tmp 70), type := 3, pos := "law.go:48", after := #[{ on := 25, ground := Ground.data }, { on := 24, ground := Ground.guard }], guard := some (24, false) }) (v := ?tkv3027) rfl (by kernel_rfl) (by kernel_rfl) (by kernel_rfl) (fun _ _ _ h => h) (Or.inl ⟨by rfl, ?tky3027⟩) hH3005 ?tkr3027
      case tky3027 => (intro w' hSw; have z0 := HF.out _ hSw; clear hSw; go_simp; try with_reducible rfl)
      try simp only [Act.put, List.setIfInBounds_toArray, List.set_cons_zero, List.set_cons_succ]
      refine wpAnyH_take (i := 27) (oi := { dst := some 72, op := Op.fieldAddr 30 (Operand.tmp 5) 4, type := 0, pos := "law.go:48", after := #[{ on := 24, ground := Ground.guard }], guard := some (24, false) }) (v := ?tkv3028) rfl (by kernel_rfl) (by kernel_rfl) (by kernel_rfl) (fun _ _ _ h => h) (Or.inl ⟨by rfl, ?tky3028⟩) hH3005 ?tkr3028
      case tky3028 => (intro w' hSw; clear hSw; go_simp; try with_reducible rfl)
      try simp only [Act.put, List.setIfInBounds_toArray, List.set_cons_zero, List.set_cons_succ]
      refine wpAnyH_take (i := 28) (oi := { dst := some 73, op := Op.indexAddr 26 (Operand.tmp 72) (Operand.tmp 71), type := 0, pos := "law.go:48", after := #[{ on := 27, ground := Ground.data }, { on := 26, ground := Ground.data }, { on := 24, ground := Ground.guard }], guard := some (24, false) }) (v := ?tkv3029) rfl (by kernel_rfl) (by kernel_rfl) (by kernel_rfl) (fun _ _ _ h => h) (Or.inl ⟨by rfl, ?tky3029⟩) hH3005 ?tkr3029
      case tky3029 => (intro w' hSw; clear hSw; go_simp; try with_reducible rfl)
      try simp only [Act.put, List.setIfInBounds_toArray, List.set_cons_zero, List.set_cons_succ]
      refine wpAnyH_take (i := 29) (oi := { dst := some 74, op := Op.fieldAddr 25 (Operand.tmp 73) 0, type := 0, pos := "law.go:48", after := #[{ on := 28, ground := Ground.data }, { on := 24, ground := Ground.guard }], guard := some (24, false) }) (v := ?tkv3030) rfl (by kernel_rfl) (by kernel_rfl) (by kernel_rfl) (fun _ _ _ h => h) (Or.inl ⟨by rfl, ?tky3030⟩) hH3005 ?tkr3030
      case tky3030 => (intro w' hSw; clear hSw; go_simp; try with_reducible rfl)
      try simp only [Act.put, List.setIfInBounds_toArray, List.set_cons_zero, List.set_cons_succ]
      refine wpAnyH_take (i := 30) (oi := { dst := some 75, op := Op.load 22 (Operand.tmp 74), type := 22, pos := "law.go:48", after := #[{ on := 29, ground := Ground.data }, { on := 24, ground := Ground.guard }], guard := some (24, false) }) (v := ?tkv3031) rfl (by kernel_rfl) (by kernel_rfl) (by kernel_rfl) (fun _ _ _ h => h) (Or.inl ⟨by rfl, ?tky3031⟩) hH3005 ?tkr3031
      case tky3031 => (intro w' hSw; have z0 := HF.out _ hSw; clear hSw; go_simp; try with_reducible rfl)
      try simp only [Act.put, List.setIfInBounds_toArray, List.set_cons_zero, List.set_cons_succ]
      refine wpAnyH_take (i := 31) (oi := { dst := some 76, op := Op.fieldAddr 30 (Operand.tmp 2) 6, type := 0, pos := "law.go:48", after := #[{ on := 24, ground := Ground.guard }], guard := some (24, false) }) (v := ?tkv3032) rfl (by kernel_rfl) (by kernel_rfl) (by kernel_rfl) (fun _ _ _ h => h) (Or.inl ⟨by rfl, ?tky3032⟩) hH3005 ?tkr3032
      case tky3032 => (intro w' hSw; clear hSw; go_simp; try with_reducible rfl)
      try simp only [Act.put, List.setIfInBounds_toArray, List.set_cons_zero, List.set_cons_succ]
      refine wpAnyH_take (i := 32) (oi := { dst := some 77, op := Op.fieldAddr 28 (Operand.tmp 76) 1, type := 0, pos := "law.go:48", after := #[{ on := 31, ground := Ground.data }, { on := 24, ground := Ground.guard }], guard := some (24, false) }) (v := ?tkv3033) rfl (by kernel_rfl) (by kernel_rfl) (by kernel_rfl) (fun _ _ _ h => h) (Or.inl ⟨by rfl, ?tky3033⟩) hH3005 ?tkr3033
      case tky3033 => (intro w' hSw; clear hSw; go_simp; try with_reducible rfl)
      try simp only [Act.put, List.setIfInBounds_toArray, List.set_cons_zero, List.set_cons_succ]
      refine wpAnyH_take (i := 33) (oi := { dst := some 78, op := Op.load 22 (Operand.tmp 77), type := 22, pos := "law.go:48", after := #[{ on := 32, ground := Ground.data }, { on := 24, ground := Ground.guard }], guard := some (24, false) }) (v := ?tkv3034) rfl (by kernel_rfl) (by kernel_rfl) (by kernel_rfl) (fun _ _ _ h => h) (Or.inl ⟨by rfl, ?tky3034⟩) hH3005 ?tkr3034
      case tky3034 => (intro w' hSw; have z0 := HF.out _ hSw; clear hSw; go_simp; try with_reducible rfl)
      try simp only [Act.put, List.setIfInBounds_toArray, List.set_cons_zero, List.set_cons_succ]
      refine wpAnyH_take (i := 34) (oi := { dst := some 79, op := Op.binOp BinOp.neq 22 (Operand.tmp 75) (Operand.tmp 78) 22, type := 4, pos := "law.go:48", after := #[{ on := 30, ground := Ground.data }, { on := 33, ground := Ground.data }, { on := 24, ground := Ground.guard }], guard := some (24, false) }) (v := ?tkv3035) rfl (by kernel_rfl) (by kernel_rfl) (by kernel_rfl) (fun _ _ _ h => h) (Or.inl ⟨by rfl, ?tky3035⟩) hH3005 ?tkr3035
      case tky3035 => (intro w' hSw; clear hSw; go_simp; try with_reducible rfl)
      try simp only [Act.put, List.setIfInBounds_toArray, List.set_cons_zero, List.set_cons_succ]
      refine wpAnyH_take (i := 35) (oi := { dst := some 80, op := Op.pick (Operand.tmp 69) (Operand.const (Value.bool true)) (Operand.tmp 79), type := 4, pos := "law.go:48", after := #[{ on := 24, ground := Ground.data }, { on := 34, ground := Ground.data }], guard := none }) (v := ?tkv3036) rfl (by kernel_rfl) (by kernel_rfl) (by kernel_rfl) (fun _ _ _ h => h) (Or.inl ⟨by rfl, ?tky3036⟩) hH3005 ?tkr3036
      case tky3036 => (intro w' hSw; clear hSw; go_simp; try with_reducible rfl)
      try simp only [Act.put, List.setIfInBounds_toArray, List.set_cons_zero, List.set_cons_succ]
      refine wpAnyH_done (by kernel_rfl) ?_ _
      refine NoPanic.normal ?_
      have HEND := Lib.hid (And.intro (HE.out _ (hH3005)) (hH3005))
      go_wp2_with fail
      go_meet
      exact ⟨rfl, HEND⟩
    case rest =>
      obtain ⟨rfl, HE2⟩ := hcut
      have E6 := Lib.hid HE2.out.1
      have SOc := Lib.hid (SO.out.below HE2.out.2)
      have S5c := Lib.hid (S5B.out.below HE2.out.2)
      have HI : Hid (EB w g5 cs L 0 wc) := Lib.hid ⟨E6.out.b, E6.out.bx _ _ _ (.tail _ (.head _)), SOc.out, c5, E6.out.bx _ _ _ (.head _), S5c.out⟩
      clear HE HF HE2 SOc S5c SO S5B E6
      go_upto_region 10 with (first | rw [HJ.out] | rw [HJ2.out])
      go_loopw [86] (fun i wr => ∃ j : Nat, j ≤ J ∧ i = .int .i64 j ∧ Hid (EB w g5 cs L j wr)) (fun i _ => J - (intOf i).toNat)
      case atStart => exact ⟨0, by omega, rfl, HI⟩
      case round =>
        obtain ⟨j, hj, rfl, hd⟩ := hrel
        obtain ⟨hb, hx, hso, c9, hc9, hs9⟩ := hd.out
        have HB := Lib.hid hb
        have HX := Lib.hid hx
        have HSO := Lib.hid hso
        have HC := Lib.hid hc9
        have HS := Lib.hid hs9
        have I9 := Lib.hid hs9.inf
        have SZ9 := Lib.hid hs9.size
        clear hb hx hso hc9 hs9 hd HI
        by_cases hjn : j < J
        · have hlt : ((j : Int) < (J : Int)) := by omega
          have hlt' : decide ((j : Int) < (J : Int)) = true := by rw [decide_eq_true_eq]; exact hlt
          have htj := (fore_is (L := L) j (by omega)).2.1
          have htn : (L.activate.starts j).start.trial = 2 - j := by
            have e := (starts_is (L := L.activate) (by rw [(activate_is L).2.1]; omega) (j + 1)).2.1
            rw [(activate_is L).2.1] at e
            show (L.activate.starts (j + 1)).trial = _
            rw [e]
            split <;> omega
          have HTN := Lib.hid htn
          have hd0 : decide ((L.activate.starts j).trial ≠ 0) = true := by rw [htj]; simp; omega
          clear htn htj
          go_wp2_with ((with_reducible show wpList _ _ _ _ _ _); refine wpList_load_row (o := ⟨some 90, _, _, _, _, _⟩) rfl _ (.tmp 5) rfl (g5) rfl _ _ _ _ (HC.out) Tryd.underlying30 rfl I9.out ?_)
          refine (start_yes HS.out (starts_may HMA.out j)).mono ?_
          rintro e w5 ⟨c8, rfl, S8, hb8⟩
          rw [hd0]
          clear hd0
          have hg5 : g5 < wr.heap.size := (Array.getElem?_eq_some_iff.1 HC.out).1
          have ba : Below wr.heap.size wr (w5.alloc (.cells c8 30)) := hb8.out.alloc hb8.out.size _
          have HBA := Lib.hid ba
          have HG5 := Lib.hid hg5
          have I8 := Lib.hid S8.out.inf
          have O8 := Lib.hid S8.out.one
          have Z8 : Hid (17 = c8.size) := Lib.hid S8.out.size.symm
          have X8 := Lib.hid (heap_alloc_new w5 (.cells c8 30))
          have S8w := Lib.hid (S8.out.below ((Below.refl w5.heap.size w5).alloc (Nat.le_refl _) (.cells c8 30)))
          have L8 : Hid (w5.heap.size < (w5.alloc (.cells c8 30)).heap.size) := Lib.hid (by simp)
          have G8 : Hid (g5 < w5.heap.size) := Lib.hid (Nat.lt_of_lt_of_le hg5 hb8.out.size)
          clear hg5 ba hb8 S8
          go_wp2_with (first
            | ((with_reducible show wpList _ _ _ _ _ _); refine wpList_store_new rfl rfl _ (.tmp 8) (.tmp 92) rfl _ _ c8 _ rfl rfl I8.out Z8.out O8.out ?_)
            | ((with_reducible show wpList _ _ _ _ _ _); refine wpList_load_rowG (o := ⟨some 97, _, _, _, _, _⟩) (by rfl) _ (.tmp 8) rfl (w5.heap.size) rfl _ _ _ _ (X8.out) Tryd.underlying30 rfl I8.out ?_))
          generalize w5.alloc (.cells c8 30) = w7 at *
          generalize w5.heap.size = g8 at *
          refine (mayS S8w.out).mono ?_
          rintro e w6 ⟨rfl, hb6⟩
          rw [show (L.activate.starts j).start.may = true from starts_may HMA.out (j + 1)]
          have HBB := Lib.hid (HBA.out.trans (hb6.mono HBA.out.size))
          have X8w := Lib.hid ((hb6.block _ L8.out).trans X8.out)
          have S6 := Lib.hid (S8w.out.below hb6)
          have k1 := (cell_of_row w6 g8 1 _ _ (0, 0) X8w.out).trans S6.out.c1
          rw [HTN.out] at k1
          have X5 := Lib.hid ((HBB.out.block g5 HG5.out).trans HC.out)
          have q5 : IntKind.i64.wrap ((2 : Int) - (j : Int)) = 2 - (j : Int) := by rw [IntKind.wrap_i64]; omega
          have hI : Hid (EB w g5 cs L (j + 1) (w6.setRow g5 c8)) := Lib.hid (by
            have ge : wr.heap.size ≤ w6.heap.size := HBB.out.size
            refine ⟨below_setRow2 (HB.out.trans (HBB.out.mono HB.out.size)) (Nat.le_of_lt HG.out) _, (setRow_other _ _ _ _ (Nat.ne_of_lt HG.out)).trans ((HBB.out.block _ (Array.getElem?_eq_some_iff.1 HX.out).1).trans HX.out), ((HSO.out.below HBB.out).keep (by simp) fun b hb _ => setRow_other _ _ _ _ hb), c8, setRow_heap _ _ _ _ _ _ X5.out, ?_⟩
            exact ((S6.out.imp (P' := fun b => b ≠ g5) fun b _ hb => Nat.ne_of_gt (Nat.lt_of_lt_of_le HG5.out hb)).keep (by simp) fun b hb _ => setRow_other _ _ _ _ hb))
          have q6 : IntKind.i64.wrap ((j : Int) + 1) = ((j + 1 : Nat) : Int) := by rw [IntKind.wrap_i64]; omega
          clear hb6 X8 S8w S6 HBA HBB HB HX HSO HS
          go_wp2_with (first
            | ((with_reducible show wpList _ _ _ _ _ _); refine wpList_load_row (o := ⟨some 108, _, _, _, _, _⟩) rfl _ (.tmp 8) rfl (g8) rfl _ _ _ _ (X8w.out) Tryd.underlying30 rfl I8.out ?_)
            | ((with_reducible show wpList _ _ _ _ _ _); refine wpList_store_row rfl _ (.tmp 5) (.tmp 108) rfl (g5) c8 rfl rfl _ _ X5.out I8.out (SZ9.out.trans Z8.out) O8.out ?_))
          go_roundw
          case rel => exact ⟨j + 1, by omega, by go_num, hI⟩
          case measure => simp [intOf]; omega
        · obtain rfl : j = J := by omega
          have hlt' : decide ((j : Int) < (j : Int)) = false := by simp
          clear hjn hj
          have HTM := Lib.hid (starts_may HMA.out j)
          have ee := (((((Env.start w).below HB.out).addSt HSO.out).addSt HS.out).addBx HX.out).addBx HC.out
          have EA := Lib.hid ee
          obtain ⟨UA0, Uc0, UA1, Uc1, UA, Uc, hcs, u0, u1, u2⟩ := HSO.out
          have UR := Lib.hid u0
          have HCS := Lib.hid hcs
          have m0 : wr.cell? ⟨w.heap.size, 0, none⟩ = some (.int .i64 0) := (ee.cell (.tail _ (.head _)) 0).trans (CA.out.trans (by rw [HA.out]))
          have m1 : wr.cell? ⟨w.heap.size, 4, none⟩ = some (.int .u32 (L.v0 : Int)) := (ee.cell (.tail _ (.head _)) 4).trans (by rw [HCS.out]; rfl)
          have m2 : wr.cell? ⟨w.heap.size, 5, none⟩ = some (.int .i64 L.l0) := (ee.cell (.tail _ (.head _)) 5).trans (by rw [HCS.out]; rfl)
          have m3 : wr.cell? ⟨w.heap.size, 6, none⟩ = some (.slice UA0 L.h0.length Uc0) := (ee.cell (.tail _ (.head _)) 6).trans (by rw [HCS.out]; rfl)
          have CN := Lib.hid (show cs[12]? = some (.int .u32 (L.m.v : Int)) from by rw [HCS.out]; rfl)
          clear ee hcs u0 u1 u2 HB HX HC HSO
          go_upto_region 18 with fail
          clear m0 m1 m2 m3 hlt'
          have EB1 := Lib.hid (EA.out.alloc #[.int .u32 (L.v0 : Int), .int .i64 L.l0, .slice UA0 L.h0.length Uc0] 25)
          have WB : Hid (Below wr.heap.size wr (wr.alloc (.cells #[.int .u32 (L.v0 : Int), .int .i64 L.l0, .slice UA0 L.h0.length Uc0] 25))) := Lib.hid ((Below.refl _ _).alloc (Nat.le_refl _) _)
          generalize wr.heap.size = g10 at EB1 ⊢
          generalize wr.alloc (.cells #[.int .u32 (L.v0 : Int), .int .i64 L.l0, .slice UA0 L.h0.length Uc0] 25) = wD at *
          by_cases h3 : j = 3
          · have q3 : ((j : Int) == 3) = true := by simp; omega
            obtain ⟨b1, b2, b3, b4⟩ := back_is (L := L) (by rw [HA.out]; omega)
            rw [← h3] at b1 b2 b3 b4
            rw [HA.out] at b1 b4
            have b4 : (L.activate.starts j).v0 = L.v0 ∧ (L.activate.starts j).l0 = L.l0 ∧ (L.activate.starts j).h0 = L.h0 := by simpa using b4
            obtain ⟨b5, b6, b7⟩ := b4
            have hst : (L.activate.starts j).start = L.activate.starts j := start_rest b2
            have htd : decide ((L.activate.starts j).trial ≠ 0) = false := by rw [b2]; rfl
            have HST := Lib.hid hst
            have HTD := Lib.hid htd
            generalize L.activate.starts j = T at *
            obtain ⟨TA0, Tc0, TA1, Tc1, TA, Tc, hc9, t0, t1, t2⟩ := HS.out
            have TR := Lib.hid t0
            have e9 : c9[0]? = some (.int .i64 0) := by rw [hc9]; show some (Value.int .i64 T.act) = _; rw [b1]
            have e1 : c9[4]? = some (.int .u32 (L.v0 : Int)) := by rw [hc9]; show some (Value.int .u32 (T.v0 : Int)) = _; rw [b5]
            have e2 : c9[5]? = some (.int .i64 L.l0) := by rw [hc9]; show some (Value.int .i64 T.l0) = _; rw [b6]
            have e3 : c9[6]? = some (.slice TA0 L.h0.length Tc0) := by rw [hc9]; show some (Value.slice TA0 T.h0.length Tc0) = _; rw [b7]
            have e4 : c9[2]? = some (.int .u32 (L.flo : Int)) := by rw [hc9]; show some (Value.int .u32 (T.flo : Int)) = _; rw [b3]
            rw [b7] at TR
            have E9 := Lib.hid e9
            have E4 := Lib.hid e4
            have m0 := (EB1.out.cell (.tail _ (.head _)) 0).trans e9
            have m1 := (EB1.out.cell (.tail _ (.head _)) 4).trans e1
            have m2 := (EB1.out.cell (.tail _ (.head _)) 5).trans e2
            have m3 := (EB1.out.cell (.tail _ (.head _)) 6).trans e3
            clear b1 b2 b3 b5 b6 b7 hst htd hc9 t0 t1 t2 e9 e1 e2 e3 e4 h3
            go_upto_region 20 with fail
            clear m0 m1 m2 m3 q3
            have EC1 := Lib.hid (EB1.out.alloc #[.int .u32 (L.v0 : Int), .int .i64 L.l0, .slice TA0 L.h0.length Tc0] 25)
            have WC := Lib.hid (WB.out.alloc WB.out.size (.cells #[.int .u32 (L.v0 : Int), .int .i64 L.l0, .slice TA0 L.h0.length Tc0] 25))
            generalize wD.heap.size = g11 at EC1 ⊢
            generalize wD.alloc (.cells #[.int .u32 (L.v0 : Int), .int .i64 L.l0, .slice TA0 L.h0.length Tc0] 25) = wE at *
            clear EB1 WB
            go_wp2_with ((with_reducible show wpList _ _ _ _ _ _); refine wpList_load_row (o := ⟨some 123, _, _, _, _, _⟩) rfl _ (.tmp 5) rfl (g5) rfl _ _ _ _ (EC1.out.bx _ _ _ (.tail _ (.tail _ (.head _)))) Tryd.underlying30 rfl I9.out ?_)
            refine (start_yes (EC1.out.st _ _ (.head _)) HTM.out).mono ?_
            rw [HST.out, HTD.out]
            rintro e w3 ⟨c12, rfl, S12, hb12⟩
            have ED := Lib.hid (((EC1.out.below hb12.out).addSt S12.out).alloc c12 30)
            have WD := Lib.hid (WC.out.trans ((hb12.out.alloc hb12.out.size (.cells c12 30)).mono WC.out.size))
            have I12 := Lib.hid S12.out.inf
            have O12 := Lib.hid S12.out.one
            have Z12 : Hid (17 = c12.size) := Lib.hid S12.out.size.symm
            clear hb12 S12 EC1 WC
            go_upto_region 21 with ((with_reducible show wpList _ _ _ _ _ _); refine wpList_store_new rfl rfl _ (.tmp 12) (.tmp 125) rfl _ _ c12 _ rfl rfl I12.out Z12.out O12.out ?_)
            generalize w3.heap.size = g12 at ED ⊢
            generalize w3.alloc (.cells c12 30) = w4 at *
            have r1 := run_string_row (P := Tryd.prog) ((TR.out.below WD.out).row) Tc0 23 9 5 Tryd.underlying23 Tryd.underlying5 Tryd.underlying9
            have r2 := run_string_row (P := Tryd.prog) ((UR.out.below WD.out).row) Uc0 23 9 5 Tryd.underlying23 Tryd.underlying5 Tryd.underlying9
            have n0 := (ED.out.cell (.tail _ (.tail _ (.tail _ (.head _)))) 0).trans E9.out
            have n1 := (ED.out.cell (.tail _ (.tail _ (.tail _ (.tail _ (.head _))))) 0).trans (CA.out.trans (by rw [HA.out]))
            have n2 : w4.cell? ⟨g11, 0, none⟩ = some (.int .u32 (L.v0 : Int)) := (ED.out.cell (.tail _ (.head _)) 0).trans rfl
            have n3 : w4.cell? ⟨g11, 1, none⟩ = some (.int .i64 L.l0) := (ED.out.cell (.tail _ (.head _)) 1).trans rfl
            have n4 : w4.cell? ⟨g11, 2, none⟩ = some (.slice TA0 L.h0.length Tc0) := (ED.out.cell (.tail _ (.head _)) 2).trans rfl
            have n5 : w4.cell? ⟨g10, 0, none⟩ = some (.int .u32 (L.v0 : Int)) := (ED.out.cell (.tail _ (.tail _ (.head _))) 0).trans rfl
            have n6 : w4.cell? ⟨g10, 1, none⟩ = some (.int .i64 L.l0) := (ED.out.cell (.tail _ (.tail _ (.head _))) 1).trans rfl
            have n7 : w4.cell? ⟨g10, 2, none⟩ = some (.slice UA0 L.h0.length Uc0) := (ED.out.cell (.tail _ (.tail _ (.head _))) 2).trans rfl
            go_wp2_with (first
              | ((with_reducible show wpList _ _ _ _ _ _); refine wpList_load_rowG (o := ⟨some 160, _, _, _, _, _⟩) (by rfl) _ (.tmp 12) rfl (g12) rfl _ _ _ _ (ED.out.bx _ _ _ (.head _)) Tryd.underlying30 rfl I12.out ?_)
              | ((with_reducible show wpList _ _ _ _ _ _); refine wpList_load_rowG (o := ⟨some 161, _, _, _, _, _⟩) (by rfl) _ (.tmp 5) rfl (g5) rfl _ _ _ _ (ED.out.bx _ _ _ (.tail _ (.tail _ (.tail _ (.head _))))) Tryd.underlying30 rfl I9.out ?_))
            refine (sameS (ED.out.st _ _ (.head _)) (ED.out.st _ _ (.tail _ (.head _)))).mono ?_
            rw [eqb_refl]
            rintro e w5 ⟨rfl, hb5⟩
            have EE := Lib.hid (ED.out.below hb5)
            clear n0 n1 n2 n3 n4 n5 n6 n7 r1 r2 hb5 ED
            have n0 := (EE.out.cell (.tail _ (.tail _ (.tail _ (.head _)))) 2).trans E4.out
            have n1 := (EE.out.cell (.tail _ (.tail _ (.tail _ (.tail _ (.head _))))) 2).trans CF.out
            go_wp2_with fail
            refine (awake21_any _ (HT.out.below EE.out.b HT.out.1)).mono ?_
            rintro e wz ⟨rfl, hbz⟩
            have hb := (EE.out.below hbz).b
            go_wp2_with fail
            go_ret
            exact ⟨rfl, hb⟩
          · have q3 : ((j : Int) == 3) = false := by simp; omega
            obtain ⟨b1, b2, b3⟩ := conf_is (L := L) j (by omega) (by rw [HA.out]; omega)
            have hcm := confirm_may HTM.out
            have hst : (L.activate.starts j).confirm.start = (L.activate.starts j).confirm := start_rest b2
            have htd : decide ((L.activate.starts j).confirm.trial ≠ 0) = false := by rw [b2]; rfl
            have hne : (!(L.activate.starts j).confirm.eqb (L.activate.starts j)) = true := by
              have h0 := (fore_is (L := L) j (by omega)).2.1
              unfold LSt.eqb
              rw [Bool.not_eq_true', decide_eq_false_iff_not]
              intro h
              have := h.2.1
              rw [b2, h0] at this
              omega
            rw [HA.out] at b1
            have HST := Lib.hid hst
            have HTD := Lib.hid htd
            have HNE := Lib.hid hne
            have HCM := Lib.hid hcm
            have B1 := Lib.hid b1
            have B2 := Lib.hid b2
            have B3 := Lib.hid b3
            clear b1 b2 b3 hst htd hne hcm h3 EA WB
            go_wp2_with ((with_reducible show wpList _ _ _ _ _ _); refine wpList_load_row (o := ⟨some 175, _, _, _, _, _⟩) rfl _ (.tmp 5) rfl (g5) rfl _ _ _ _ (EB1.out.bx _ _ _ (.tail _ (.head _))) Tryd.underlying30 rfl I9.out ?_)
            refine (confirm_yes (EB1.out.st _ _ (.head _)) HTM.out).mono ?_
            rw [HNE.out]
            generalize (L.activate.starts j).confirm = K at *
            rintro e w3 ⟨c14, rfl, S14, hb14⟩
            have EC1 := Lib.hid (((EB1.out.below hb14.out).addSt S14.out).alloc c14 30)
            have I14 := Lib.hid S14.out.inf
            have O14 := Lib.hid S14.out.one
            have Z14 : Hid (17 = c14.size) := Lib.hid S14.out.size.symm
            have e0 := Lib.hid S14.out.c0
            have e1 := Lib.hid S14.out.c1
            have e2 := Lib.hid S14.out.c2
            rw [B1.out] at e0
            rw [B2.out] at e1
            rw [B3.out] at e2
            clear hb14 S14 EB1 q3
            go_upto_region 23 with ((with_reducible show wpList _ _ _ _ _ _); refine wpList_store_new rfl rfl _ (.tmp 14) (.tmp 177) rfl _ _ c14 _ rfl rfl I14.out Z14.out O14.out ?_)
            generalize w3.heap.size = g14 at EC1 ⊢
            generalize w3.alloc (.cells c14 30) = w4 at *
            go_wp2_with ((with_reducible show wpList _ _ _ _ _ _); refine wpList_load_row (o := ⟨some 180, _, _, _, _, _⟩) rfl _ (.tmp 14) rfl (g14) rfl _ _ _ _ (EC1.out.bx _ _ _ (.head _)) Tryd.underlying30 rfl I14.out ?_)
            refine (start_yes (EC1.out.st _ _ (.head _)) HCM.out).mono ?_
            rw [HST.out, HTD.out]
            rintro e w5 ⟨c16, rfl, S16, hb16⟩
            have ED := Lib.hid (((EC1.out.below hb16.out).addSt S16.out).alloc c16 30)
            have I16 := Lib.hid S16.out.inf
            have O16 := Lib.hid S16.out.one
            have Z16 : Hid (17 = c16.size) := Lib.hid S16.out.size.symm
            clear hb16 S16 EC1
            go_upto_region 24 with ((with_reducible show wpList _ _ _ _ _ _); refine wpList_store_new rfl rfl _ (.tmp 16) (.tmp 182) rfl _ _ c16 _ rfl rfl I16.out Z16.out O16.out ?_)
            generalize w5.heap.size = g16 at ED ⊢
            generalize w5.alloc (.cells c16 30) = w6 at *
            have n0 : w6.cell? ⟨g14, 0, none⟩ = some (.int .i64 1) := (ED.out.cell (.tail _ (.head _)) 0).trans e0.out
            have n1 : w6.cell? ⟨g14, 1, none⟩ = some (.int .i64 0) := (ED.out.cell (.tail _ (.head _)) 1).trans e1.out
            have n3 := (ED.out.cell (.tail _ (.tail _ (.tail _ (.tail _ (.head _))))) 0).trans (CA.out.trans (by rw [HA.out]))
            have n4 := (ED.out.cell (.tail _ (.tail _ (.tail _ (.tail _ (.head _))))) 2).trans CF.out
            have n5 := (ED.out.cell (.tail _ (.tail _ (.tail _ (.tail _ (.head _))))) 12).trans CN.out
            rcases Nat.lt_trichotomy L.flo L.m.v with hle | hle | hle
            · have n2 : w6.cell? ⟨g14, 2, none⟩ = some (.int .u32 (L.m.v : Int)) := (ED.out.cell (.tail _ (.head _)) 2).trans (e2.out.trans (by rw [Nat.max_eq_right (Nat.le_of_lt hle)]))
              have hle2 : (L.flo : Int) < (L.m.v : Int) := by omega
              have hle3 : ¬ (L.m.v : Int) ≤ (L.flo : Int) := by omega
              have hle4 : ¬ L.m.v ≤ L.flo := by omega
              have hle5 : L.flo ≤ L.m.v := by omega
              go_wp2_with (first
                | ((with_reducible show wpList _ _ _ _ _ _); refine wpList_load_rowG (o := ⟨some 214, _, _, _, _, _⟩) (by rfl) _ (.tmp 14) rfl (g14) rfl _ _ _ _ (ED.out.bx _ _ _ (.tail _ (.head _))) Tryd.underlying30 rfl I14.out ?_)
                | ((with_reducible show wpList _ _ _ _ _ _); refine wpList_load_rowG (o := ⟨some 215, _, _, _, _, _⟩) (by rfl) _ (.tmp 16) rfl (g16) rfl _ _ _ _ (ED.out.bx _ _ _ (.head _)) Tryd.underlying30 rfl I16.out ?_))
              refine (sameS (ED.out.st _ _ (.tail _ (.head _))) (ED.out.st _ _ (.head _))).mono ?_
              rw [eqb_refl]
              rintro e w7 ⟨rfl, hb7⟩
              have EE := Lib.hid (ED.out.below hb7)
              clear hb7 ED n0 n1 n2 n3 n4 n5 hle hle2 hle3 hle4 hle5
              go_wp2_with ((with_reducible show wpList _ _ _ _ _ _); refine wpList_load_rowG (o := ⟨some 219, _, _, _, _, _⟩) (by rfl) _ (.tmp 14) rfl (g14) rfl _ _ _ _ (EE.out.bx _ _ _ (.tail _ (.head _))) Tryd.underlying30 rfl I14.out ?_)
              refine (mayS (EE.out.st _ _ (.tail _ (.head _)))).mono ?_
              rw [HCM.out]
              rintro e w8 ⟨rfl, hb8⟩
              have EF := Lib.hid (EE.out.below hb8)
              clear hb8 EE
              go_wp2_with fail
              refine (awake21_any _ (HT.out.below EF.out.b HT.out.1)).mono ?_
              rintro e wz ⟨rfl, hbz⟩
              have hb := (EF.out.below hbz).b
              go_wp2_with fail
              go_ret
              exact ⟨rfl, hb⟩
            · have n2 : w6.cell? ⟨g14, 2, none⟩ = some (.int .u32 (L.flo : Int)) := (ED.out.cell (.tail _ (.head _)) 2).trans (e2.out.trans (by rw [← hle, Nat.max_self]))
              rw [← hle] at n5
              have hle2 := trivial
              have hle3 := trivial
              have hle4 := trivial
              have hle5 := trivial
              have HLE := Lib.hid hle
              clear hle
              have hle := trivial
              go_wp2_with (first
                | ((with_reducible show wpList _ _ _ _ _ _); refine wpList_load_rowG (o := ⟨some 214, _, _, _, _, _⟩) (by rfl) _ (.tmp 14) rfl (g14) rfl _ _ _ _ (ED.out.bx _ _ _ (.tail _ (.head _))) Tryd.underlying30 rfl I14.out ?_)
                | ((with_reducible show wpList _ _ _ _ _ _); refine wpList_load_rowG (o := ⟨some 215, _, _, _, _, _⟩) (by rfl) _ (.tmp 16) rfl (g16) rfl _ _ _ _ (ED.out.bx _ _ _ (.head _)) Tryd.underlying30 rfl I16.out ?_))
              refine (sameS (ED.out.st _ _ (.tail _ (.head _))) (ED.out.st _ _ (.head _))).mono ?_
              rw [eqb_refl]
              rintro e w7 ⟨rfl, hb7⟩
              have EE := Lib.hid (ED.out.below hb7)
              clear hb7 ED n0 n1 n2 n3 n4 n5 hle hle2 hle3 hle4 hle5
              go_wp2_with ((with_reducible show wpList _ _ _ _ _ _); refine wpList_load_rowG (o := ⟨some 219, _, _, _, _, _⟩) (by rfl) _ (.tmp 14) rfl (g14) rfl _ _ _ _ (EE.out.bx _ _ _ (.tail _ (.head _))) Tryd.underlying30 rfl I14.out ?_)
              refine (mayS (EE.out.st _ _ (.tail _ (.head _)))).mono ?_
              rw [HCM.out]
              rintro e w8 ⟨rfl, hb8⟩
              have EF := Lib.hid (EE.out.below hb8)
              clear hb8 EE
              go_wp2_with fail
              refine (awake21_any _ (HT.out.below EF.out.b HT.out.1)).mono ?_
              rintro e wz ⟨rfl, hbz⟩
              have hb := (EF.out.below hbz).b
              go_wp2_with fail
              go_ret
              exact ⟨rfl, hb⟩
            · have n2 : w6.cell? ⟨g14, 2, none⟩ = some (.int .u32 (L.flo : Int)) := (ED.out.cell (.tail _ (.head _)) 2).trans (e2.out.trans (by rw [Nat.max_eq_left (Nat.le_of_lt hle)]))
              have hle2 : (L.m.v : Int) < (L.flo : Int) := by omega
              have hle3 : ¬ (L.flo : Int) ≤ (L.m.v : Int) := by omega
              have hle4 : ¬ L.flo ≤ L.m.v := by omega
              have hle5 : L.m.v ≤ L.flo := by omega
              go_wp2_with (first
                | ((with_reducible show wpList _ _ _ _ _ _); refine wpList_load_rowG (o := ⟨some 214, _, _, _, _, _⟩) (by rfl) _ (.tmp 14) rfl (g14) rfl _ _ _ _ (ED.out.bx _ _ _ (.tail _ (.head _))) Tryd.underlying30 rfl I14.out ?_)
                | ((with_reducible show wpList _ _ _ _ _ _); refine wpList_load_rowG (o := ⟨some 215, _, _, _, _, _⟩) (by rfl) _ (.tmp 16) rfl (g16) rfl _ _ _ _ (ED.out.bx _ _ _ (.head _)) Tryd.underlying30 rfl I16.out ?_))
              refine (sameS (ED.out.st _ _ (.tail _ (.head _))) (ED.out.st _ _ (.head _))).mono ?_
              rw [eqb_refl]
              rintro e w7 ⟨rfl, hb7⟩
              have EE := Lib.hid (ED.out.below hb7)
              clear hb7 ED n0 n1 n2 n3 n4 n5 hle hle2 hle3 hle4 hle5
              go_wp2_with ((with_reducible show wpList _ _ _ _ _ _); refine wpList_load_rowG (o := ⟨some 219, _, _, _, _, _⟩) (by rfl) _ (.tmp 14) rfl (g14) rfl _ _ _ _ (EE.out.bx _ _ _ (.tail _ (.head _))) Tryd.underlying30 rfl I14.out ?_)
              refine (mayS (EE.out.st _ _ (.tail _ (.head _)))).mono ?_
              rw [HCM.out]
              rintro e w8 ⟨rfl, hb8⟩
              have EF := Lib.hid (EE.out.below hb8)
              clear hb8 EE
              go_wp2_with fail
              refine (awake21_any _ (HT.out.below EF.out.b HT.out.1)).mono ?_
              rintro e wz ⟨rfl, hbz⟩
              have hb := (EF.out.below hbz).b
              go_wp2_with fail
              go_ret
              exact ⟨rfl, hb⟩
  · exact absurd ha HNE0.out
end Go.Proofs.YtoclckfpbmglfaaDoor
