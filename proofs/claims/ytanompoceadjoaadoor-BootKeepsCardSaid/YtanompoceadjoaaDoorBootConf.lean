/- BootConfirms' walk. -/
import Derived.Test.YtanompoceadjoaaDoorBootW
import Derived.Test.YtanompoceadjoaaDoorSesRH
namespace Go.Proofs.YtanompoceadjoaaDoor
open Go.RowKit Sh
theorem confirm_may {L : LSt} (h : L.may = true) : L.confirm.may = true := by
  unfold LSt.may mayB2 at h ⊢
  simp only [LSt.confirm]
  rw [Bool.and_eq_true, Bool.and_eq_true, Bool.and_eq_true] at h ⊢
  obtain ⟨⟨⟨h1, _⟩, hm⟩, hs⟩ := h
  refine ⟨⟨⟨h1, by simp⟩, hm⟩, ?_⟩
  split at hs
  · rename_i h0
    rw [if_pos h0]
    simp only [Bool.and_eq_true, Bool.or_eq_true, decide_eq_true_eq] at hs ⊢
    exact ⟨hs.1, hs.2.imp id fun h => ⟨trivial, h.2⟩⟩
  · rename_i h0
    rw [if_neg h0]
    simp only [Bool.and_eq_true, Bool.or_eq_true, decide_eq_true_eq] at hs ⊢
    exact ⟨hs.1, hs.2.imp id fun h => ⟨trivial, h.2⟩⟩
theorem confirm_twice (L : LSt) : L.confirm.confirm = L.confirm := by
  unfold LSt.confirm
  by_cases h : L.act = 0
  · simp only [h, if_pos, Nat.max_assoc, Nat.max_self]
  · simp only [if_neg h, Nat.max_assoc, Nat.max_self]
set_option maxRecDepth 100000 in
set_option maxHeartbeats 3200000 in
theorem bconf_walk (cs : Array Value) (L : LSt) (w : World) (ht : Tab w) (hs : IsSt w (fun _ => True) cs L) :
    Calls Tryd.prog 7 #[.agg cs] w fun e w' => e = .returned (.bool true) ∧ Below w.heap.size w w' := by
  have HT := Lib.hid ht
  have e0 := ((Env.start w).addSt hs).alloc cs 30
  have E0 := Lib.hid e0
  have IN := Lib.hid hs.inf
  have CA := Lib.hid hs.c0
  have CF := Lib.hid hs.c2
  have CV0 := Lib.hid hs.c4
  have CV1 := Lib.hid hs.c7
  clear e0 hs ht
  go_enter Tryd.func7, Tryd.ntmps7
  go_wp2_with ((with_reducible show wpList _ _ _ _ _ _); refine wpList_load_row (o := ⟨some 7, _, _, _, _, _⟩) rfl _ (.tmp 1) rfl (w.heap.size) rfl _ _ _ _ (E0.out.bx _ _ _ (.head _)) Tryd.underlying30 rfl IN.out ?_)
  generalize w.alloc (.cells cs 30) = w0 at *
  by_cases hl : L.light
  case neg =>
    refine (heavyS_yes (E0.out.st _ _ (.head _)) hl).mono ?_
    rintro e w1 ⟨rfl, hb1⟩
    have E1 := Lib.hid (E0.out.below hb1)
    clear hb1 E0
    go_wp2_with fail
    refine (awake21_any _ (HT.out.below E1.out.b HT.out.1)).mono ?_
    rintro e w9 ⟨rfl, hb9⟩
    have hb := (E1.out.below hb9).b
    go_wp2_with fail
    go_ret
    exact ⟨rfl, hb⟩
  refine (heavyS_no (E0.out.st _ _ (.head _)) hl).mono ?_
  rintro e w1 ⟨rfl, hb1⟩
  have E1 := Lib.hid (E0.out.below hb1)
  clear hb1 E0
  go_wp2_with ((with_reducible show wpList _ _ _ _ _ _); refine wpList_load_rowG (o := ⟨some 11, _, _, _, _, _⟩) (by rfl) _ (.tmp 1) rfl (w.heap.size) rfl _ _ _ _ (E1.out.bx _ _ _ (.head _)) Tryd.underlying30 rfl IN.out ?_)
  refine (mayS (E1.out.st _ _ (.head _))).mono ?_
  rintro e w2 ⟨rfl, hb2⟩
  have E2 := Lib.hid (E1.out.below hb2)
  clear hb2 E1
  cases hm : L.may with
  | false =>
    go_wp2_with fail
    refine (awake21_any _ (HT.out.below E2.out.b HT.out.1)).mono ?_
    rintro e w9 ⟨rfl, hb9⟩
    have hb := (E2.out.below hb9).b
    go_wp2_with fail
    go_ret
    exact ⟨rfl, hb⟩
  | true =>
  have HM := Lib.hid hm
  have HK := Lib.hid (confirm_may hm)
  obtain ⟨hact, _, _⟩ := stMay_act hm
  clear hm
  go_wp2_with ((with_reducible show wpList _ _ _ _ _ _); refine wpList_load_row (o := ⟨some 17, _, _, _, _, _⟩) rfl _ (.tmp 1) rfl (w.heap.size) rfl _ _ _ _ (E2.out.bx _ _ _ (.head _)) Tryd.underlying30 rfl IN.out ?_)
  refine (confirm_yes (E2.out.st _ _ (.head _)) HM.out).mono ?_
  rintro e w3 ⟨c3, rfl, S3, hb3⟩
  have E3 := Lib.hid (((E2.out.below hb3.out).addSt S3.out).alloc c3 30)
  have I3 := Lib.hid S3.out.inf
  have O3 := Lib.hid S3.out.one
  have Z3 : Hid (17 = c3.size) := Lib.hid S3.out.size.symm
  have C3a := Lib.hid S3.out.c0
  have C3t := Lib.hid S3.out.c1
  have C3f := Lib.hid S3.out.c2
  clear S3 hb3 E2
  go_wp2_with (first
    | ((with_reducible show wpList _ _ _ _ _ _); refine wpList_store_new rfl rfl _ (.tmp 3) (.tmp 19) rfl _ _ c3 _ rfl rfl I3.out Z3.out O3.out ?_)
    | ((with_reducible show wpList _ _ _ _ _ _); refine wpList_load_row (o := ⟨some 22, _, _, _, _, _⟩) rfl _ (.tmp 3) rfl (w3.heap.size) rfl _ _ _ _ (E3.out.bx _ _ _ (.head _)) Tryd.underlying30 rfl I3.out ?_))
  refine (confirm_yes (E3.out.st _ _ (.head _)) HK.out).mono ?_
  rintro e w4 ⟨c4, rfl, S4, hb4⟩
  have s4 := S4.out
  rw [confirm_twice] at s4
  rw [confirm_twice, eqb_refl]
  have E4 := Lib.hid (((E3.out.below hb4.out).addSt s4).alloc c4 30)
  have I4 := Lib.hid s4.inf
  have O4 := Lib.hid s4.one
  have Z4 : Hid (17 = c4.size) := Lib.hid s4.size.symm
  clear S4 s4 hb4 E3
  go_upto_region 5 with ((with_reducible show wpList _ _ _ _ _ _); refine wpList_store_new rfl rfl _ (.tmp 5) (.tmp 24) rfl _ _ c4 _ rfl rfl I4.out Z4.out O4.out ?_)
  generalize w4.alloc (.cells c4 30) = wC at *
  have HE : Hid (∀ W, Below wC.heap.size wC W → Env w W [(w4.heap.size, c4, 30), (w3.heap.size, c3, 30), (w.heap.size, cs, 30)] [(c4, L.confirm), (c3, L.confirm), (cs, L)] []) := Lib.hid (fun W hW => E4.out.below hW)
  generalize w4.heap.size = g4 at *
  generalize w3.heap.size = g3 at *
  obtain ⟨K, hK⟩ : ∃ K, L.confirm = K := ⟨_, rfl⟩
  have hKa : K.act = L.act := by rw [← hK]; rfl
  have hKt : K.trial = 0 := by rw [← hK]; rfl
  have hKf : K.flo = max L.flo (if L.act = 0 then L.v0 else L.v1) := by rw [← hK]; rfl
  rw [hK] at HE C3a C3t C3f
  obtain ⟨KF, hKF⟩ : ∃ n, K.flo = n := ⟨_, rfl⟩
  rw [hKF] at C3f hKf
  rw [hKa] at C3a
  rw [hKt] at C3t
  have F3t : Hid (∀ W, Below wC.heap.size wC W → W.cell? ⟨g3, 1, none⟩ = some (.int .i64 0)) := Lib.hid (fun W hW => ((HE.out W hW).cell (.tail _ (.head _)) 1).trans C3t.out)
  have F3f : Hid (∀ W, Below wC.heap.size wC W → W.cell? ⟨g3, 2, none⟩ = some (.int .u32 (KF : Int))) := Lib.hid (fun W hW => ((HE.out W hW).cell (.tail _ (.head _)) 2).trans C3f.out)
  have F1f : Hid (∀ W, Below wC.heap.size wC W → W.cell? ⟨w.heap.size, 2, none⟩ = some (.int .u32 (L.flo : Int))) := Lib.hid (fun W hW => ((HE.out W hW).cell (.tail _ (.tail _ (.head _))) 2).trans CF.out)
  have F1v0 : Hid (∀ W, Below wC.heap.size wC W → W.cell? ⟨w.heap.size, 4, none⟩ = some (.int .u32 (L.v0 : Int))) := Lib.hid (fun W hW => ((HE.out W hW).cell (.tail _ (.tail _ (.head _))) 4).trans CV0.out)
  have F1v1 : Hid (∀ W, Below wC.heap.size wC W → W.cell? ⟨w.heap.size, 7, none⟩ = some (.int .u32 (L.v1 : Int))) := Lib.hid (fun W hW => ((HE.out W hW).cell (.tail _ (.tail _ (.head _))) 7).trans CV1.out)
  have Q1 : Hid (decide ((L.flo : Int) ≤ (KF : Int)) = true) := Lib.hid (by rw [decide_eq_true_eq]; have := Nat.le_max_left L.flo (if L.act = 0 then L.v0 else L.v1); omega)
  have Q1n : Hid (L.flo ≤ KF) := Lib.hid (by have := Q1.out; rw [decide_eq_true_eq] at this; omega)
  clear E4 C3t C3f CF CV0 CV1 O3 Z3 O4 Z4 hK HM HK hKa hKt hKF
  rcases hact with ha | ha
  · rw [ha] at C3a CA hKf
    have Q2 : Hid (decide ((L.v0 : Int) ≤ (KF : Int)) = true) := Lib.hid (by rw [decide_eq_true_eq]; have := Nat.le_max_right L.flo L.v0; simp only [if_true] at hKf; omega)
    have Q2n : Hid (L.v0 ≤ KF) := Lib.hid (by have := Q2.out; rw [decide_eq_true_eq] at this; omega)
    have F3a : Hid (∀ W, Below wC.heap.size wC W → W.cell? ⟨g3, 0, none⟩ = some (.int .i64 0)) := Lib.hid (fun W hW => ((HE.out W hW).cell (.tail _ (.head _)) 0).trans C3a.out)
    have F1a : Hid (∀ W, Below wC.heap.size wC W → W.cell? ⟨w.heap.size, 0, none⟩ = some (.int .i64 0)) := Lib.hid (fun W hW => ((HE.out W hW).cell (.tail _ (.tail _ (.head _))) 0).trans CA.out)
    clear C3a CA hKf ha hl
    refine wp_region_noPanic ?_
    refine wp_region_held_drew (S := (fun W => Below (wC.heap.size) wC W)) (by kernel_rfl) (Below.refl _ _).drew (fun hH0 => ?_)
    have hH0 : Below (wC.heap.size) wC wC.drew := hH0
    generalize wC.drew = wd5000 at *
    refine wpAnyH_take (i := 0) (oi := { dst := some 26, op := Op.move (Operand.tmp 6), type := 4, pos := "more.go:38", after := #[], guard := none }) (v := ?tkv5001) rfl (by kernel_rfl) (by kernel_rfl) (by kernel_rfl) (fun _ _ _ h => h) (Or.inl ⟨by rfl, ?tky5001⟩) hH0 ?tkr5001
    case tky5001 => (intro w' hSw; clear hSw; go_simp; try with_reducible rfl)
    try simp only [Act.put, List.setIfInBounds_toArray, List.set_cons_zero, List.set_cons_succ]
    refine wpAnyH_take (i := 1) (oi := { dst := some 27, op := Op.unOp UnOp.not 4 (Operand.tmp 26), type := 4, pos := "more.go:38", after := #[{ on := 0, ground := Ground.data }], guard := none }) (v := ?tkv5002) rfl (by kernel_rfl) (by kernel_rfl) (by kernel_rfl) (fun _ _ _ h => h) (Or.inl ⟨by rfl, ?tky5002⟩) hH0 ?tkr5002
    case tky5002 => (intro w' hSw; clear hSw; go_simp; try with_reducible rfl)
    try simp only [Act.put, List.setIfInBounds_toArray, List.set_cons_zero, List.set_cons_succ]
    refine wpAnyH_take (i := 2) (oi := { dst := some 28, op := Op.move (Operand.tmp 27), type := 4, pos := "more.go:38", after := #[{ on := 1, ground := Ground.data }], guard := none }) (v := ?tkv5003) rfl (by kernel_rfl) (by kernel_rfl) (by kernel_rfl) (fun _ _ _ h => h) (Or.inl ⟨by rfl, ?tky5003⟩) hH0 ?tkr5003
    case tky5003 => (intro w' hSw; clear hSw; go_simp; try with_reducible rfl)
    try simp only [Act.put, List.setIfInBounds_toArray, List.set_cons_zero, List.set_cons_succ]
    refine wpAnyH_take (i := 3) (oi := { dst := some 29, op := Op.load 30 (Operand.tmp 3), type := 30, pos := "more.go:38", after := #[{ on := 2, ground := Ground.guard }], guard := some (2, true) }) (v := .agg c3) rfl (by kernel_rfl) (by kernel_rfl) (by kernel_rfl) (fun _ _ _ h => h) (yields_row (by rfl) _ _ rfl (g3) rfl _ _ _ _ (fun W hW => (HE.out W hW).bx _ _ _ (.tail _ (.head _))) Tryd.underlying30 rfl I3.out) hH0 ?tkr5004
    try simp only [Act.put, List.setIfInBounds_toArray, List.set_cons_zero, List.set_cons_succ]
    refine wpAnyH_take (i := 4) (oi := { dst := some 30, op := Op.load 30 (Operand.tmp 5), type := 30, pos := "more.go:38", after := #[{ on := 2, ground := Ground.guard }], guard := some (2, true) }) (v := .agg c4) rfl (by kernel_rfl) (by kernel_rfl) (by kernel_rfl) (fun _ _ _ h => h) (yields_row (by rfl) _ _ rfl (g4) rfl _ _ _ _ (fun W hW => (HE.out W hW).bx _ _ _ (.head _)) Tryd.underlying30 rfl I4.out) hH0 ?tkr5005
    try simp only [Act.put, List.setIfInBounds_toArray, List.set_cons_zero, List.set_cons_succ]
    refine wpAnyH_ready (rs := [5]) (by kernel_rfl) (by simp) ?_
    refine AllReadyH.cons (o := { dst := some 31, op := Op.call { callee := Callee.value (Operand.func 22), args := #[Operand.tmp 29, Operand.tmp 30], argTypes := #[30, 30] }, type := 4, pos := "more.go:38", after := #[{ on := 3, ground := Ground.data }, { on := 4, ground := Ground.data }, { on := 2, ground := Ground.chain }, { on := 2, ground := Ground.guard }], guard := some (2, true) }) rfl (fun K hK => ?_) AllReadyH.nil
    go_simp
    refine (sameS ((HE.out wd5000 (hH0)).st _ _ (.tail _ (.head _))) ((HE.out wd5000 (hH0)).st _ _ (.head _))).mono ?_
    rintro e' wn5006 ⟨rfl, hb5006⟩
    rw [eqb_refl]
    go_simp
    have hS5006 : Below (wC.heap.size) wC wn5006 := (hH0).trans (hb5006.mono (hH0).size)
    refine hK.out _ _ hS5006 (fun hH5006 => ?_)
    have hH5006 : Below (wC.heap.size) wC wn5006 := hH5006
    clear hK K hS5006
    try simp only [Act.put, List.setIfInBounds_toArray, List.set_cons_zero, List.set_cons_succ]
    refine wpAnyH_take (i := 6) (oi := { dst := some 32, op := Op.pick (Operand.tmp 28) (Operand.tmp 31) (Operand.const (Value.bool false)), type := 4, pos := "more.go:38", after := #[{ on := 2, ground := Ground.data }, { on := 5, ground := Ground.data }], guard := none }) (v := ?tkv5007) rfl (by kernel_rfl) (by kernel_rfl) (by kernel_rfl) (fun _ _ _ h => h) (Or.inl ⟨by rfl, ?tky5007⟩) hH5006 ?tkr5007
    case tky5007 => (intro w' hSw; clear hSw; go_simp; try with_reducible rfl)
    try simp only [Act.put, List.setIfInBounds_toArray, List.set_cons_zero, List.set_cons_succ]
    refine wpAnyH_take (i := 7) (oi := { dst := some 33, op := Op.move (Operand.tmp 32), type := 4, pos := "more.go:38", after := #[{ on := 6, ground := Ground.data }, { on := 5, ground := Ground.chain }], guard := none }) (v := ?tkv5008) rfl (by kernel_rfl) (by kernel_rfl) (by kernel_rfl) (fun _ _ _ h => h) (Or.inl ⟨by rfl, ?tky5008⟩) hH5006 ?tkr5008
    case tky5008 => (intro w' hSw; clear hSw; go_simp; try with_reducible rfl)
    try simp only [Act.put, List.setIfInBounds_toArray, List.set_cons_zero, List.set_cons_succ]
    refine wpAnyH_take (i := 8) (oi := { dst := some 34, op := Op.fieldAddr 30 (Operand.tmp 3) 2, type := 0, pos := "more.go:38", after := #[{ on := 7, ground := Ground.guard }], guard := some (7, true) }) (v := ?tkv5009) rfl (by kernel_rfl) (by kernel_rfl) (by kernel_rfl) (fun _ _ _ h => h) (Or.inl ⟨by rfl, ?tky5009⟩) hH5006 ?tkr5009
    case tky5009 => (intro w' hSw; clear hSw; go_simp; try with_reducible rfl)
    try simp only [Act.put, List.setIfInBounds_toArray, List.set_cons_zero, List.set_cons_succ]
    refine wpAnyH_take (i := 9) (oi := { dst := some 35, op := Op.load 22 (Operand.tmp 34), type := 22, pos := "more.go:38", after := #[{ on := 8, ground := Ground.data }, { on := 7, ground := Ground.guard }], guard := some (7, true) }) (v := ?tkv5010) rfl (by kernel_rfl) (by kernel_rfl) (by kernel_rfl) (fun _ _ _ h => h) (Or.inl ⟨by rfl, ?tky5010⟩) hH5006 ?tkr5010
    case tky5010 => (intro w' hSw; have z0 := F3a.out _ hSw; have z1 := F3t.out _ hSw; have z2 := F3f.out _ hSw; have z3 := F1a.out _ hSw; have z4 := F1f.out _ hSw; have z5 := F1v0.out _ hSw; clear hSw; go_simp; try with_reducible rfl)
    try simp only [Act.put, List.setIfInBounds_toArray, List.set_cons_zero, List.set_cons_succ]
    refine wpAnyH_take (i := 10) (oi := { dst := some 36, op := Op.fieldAddr 30 (Operand.tmp 1) 2, type := 0, pos := "more.go:38", after := #[{ on := 7, ground := Ground.guard }], guard := some (7, true) }) (v := ?tkv5011) rfl (by kernel_rfl) (by kernel_rfl) (by kernel_rfl) (fun _ _ _ h => h) (Or.inl ⟨by rfl, ?tky5011⟩) hH5006 ?tkr5011
    case tky5011 => (intro w' hSw; clear hSw; go_simp; try with_reducible rfl)
    try simp only [Act.put, List.setIfInBounds_toArray, List.set_cons_zero, List.set_cons_succ]
    refine wpAnyH_take (i := 11) (oi := { dst := some 37, op := Op.load 22 (Operand.tmp 36), type := 22, pos := "more.go:38", after := #[{ on := 10, ground := Ground.data }, { on := 7, ground := Ground.guard }], guard := some (7, true) }) (v := ?tkv5012) rfl (by kernel_rfl) (by kernel_rfl) (by kernel_rfl) (fun _ _ _ h => h) (Or.inl ⟨by rfl, ?tky5012⟩) hH5006 ?tkr5012
    case tky5012 => (intro w' hSw; have z0 := F3a.out _ hSw; have z1 := F3t.out _ hSw; have z2 := F3f.out _ hSw; have z3 := F1a.out _ hSw; have z4 := F1f.out _ hSw; have z5 := F1v0.out _ hSw; clear hSw; go_simp; try with_reducible rfl)
    try simp only [Act.put, List.setIfInBounds_toArray, List.set_cons_zero, List.set_cons_succ]
    refine wpAnyH_take (i := 12) (oi := { dst := some 38, op := Op.binOp BinOp.geq 22 (Operand.tmp 35) (Operand.tmp 37) 22, type := 4, pos := "more.go:38", after := #[{ on := 9, ground := Ground.data }, { on := 11, ground := Ground.data }, { on := 7, ground := Ground.guard }], guard := some (7, true) }) (v := ?tkv5013) rfl (by kernel_rfl) (by kernel_rfl) (by kernel_rfl) (fun _ _ _ h => h) (Or.inl ⟨by rfl, ?tky5013⟩) hH5006 ?tkr5013
    case tky5013 => (intro w' hSw; have q1 := Q1.out; have q1n := Q1n.out; clear hSw; go_simp; try with_reducible rfl)
    try simp only [Act.put, List.setIfInBounds_toArray, List.set_cons_zero, List.set_cons_succ]
    refine wpAnyH_take (i := 13) (oi := { dst := some 39, op := Op.pick (Operand.tmp 33) (Operand.tmp 38) (Operand.const (Value.bool false)), type := 4, pos := "more.go:38", after := #[{ on := 7, ground := Ground.data }, { on := 12, ground := Ground.data }], guard := none }) (v := ?tkv5014) rfl (by kernel_rfl) (by kernel_rfl) (by kernel_rfl) (fun _ _ _ h => h) (Or.inl ⟨by rfl, ?tky5014⟩) hH5006 ?tkr5014
    case tky5014 => (intro w' hSw; clear hSw; go_simp; try with_reducible rfl)
    try simp only [Act.put, List.setIfInBounds_toArray, List.set_cons_zero, List.set_cons_succ]
    refine wpAnyH_take (i := 14) (oi := { dst := some 40, op := Op.move (Operand.tmp 39), type := 4, pos := "more.go:38", after := #[{ on := 13, ground := Ground.data }, { on := 7, ground := Ground.chain }], guard := none }) (v := ?tkv5015) rfl (by kernel_rfl) (by kernel_rfl) (by kernel_rfl) (fun _ _ _ h => h) (Or.inl ⟨by rfl, ?tky5015⟩) hH5006 ?tkr5015
    case tky5015 => (intro w' hSw; clear hSw; go_simp; try with_reducible rfl)
    try simp only [Act.put, List.setIfInBounds_toArray, List.set_cons_zero, List.set_cons_succ]
    refine wpAnyH_take (i := 15) (oi := { dst := some 41, op := Op.fieldAddr 30 (Operand.tmp 3) 2, type := 0, pos := "more.go:38", after := #[{ on := 14, ground := Ground.guard }], guard := some (14, true) }) (v := ?tkv5016) rfl (by kernel_rfl) (by kernel_rfl) (by kernel_rfl) (fun _ _ _ h => h) (Or.inl ⟨by rfl, ?tky5016⟩) hH5006 ?tkr5016
    case tky5016 => (intro w' hSw; clear hSw; go_simp; try with_reducible rfl)
    try simp only [Act.put, List.setIfInBounds_toArray, List.set_cons_zero, List.set_cons_succ]
    refine wpAnyH_take (i := 16) (oi := { dst := some 42, op := Op.load 22 (Operand.tmp 41), type := 22, pos := "more.go:38", after := #[{ on := 15, ground := Ground.data }, { on := 14, ground := Ground.guard }], guard := some (14, true) }) (v := ?tkv5017) rfl (by kernel_rfl) (by kernel_rfl) (by kernel_rfl) (fun _ _ _ h => h) (Or.inl ⟨by rfl, ?tky5017⟩) hH5006 ?tkr5017
    case tky5017 => (intro w' hSw; have z0 := F3a.out _ hSw; have z1 := F3t.out _ hSw; have z2 := F3f.out _ hSw; have z3 := F1a.out _ hSw; have z4 := F1f.out _ hSw; have z5 := F1v0.out _ hSw; clear hSw; go_simp; try with_reducible rfl)
    try simp only [Act.put, List.setIfInBounds_toArray, List.set_cons_zero, List.set_cons_succ]
    refine wpAnyH_take (i := 17) (oi := { dst := some 43, op := Op.fieldAddr 30 (Operand.tmp 1) 0, type := 0, pos := "more.go:38", after := #[{ on := 14, ground := Ground.guard }], guard := some (14, true) }) (v := ?tkv5018) rfl (by kernel_rfl) (by kernel_rfl) (by kernel_rfl) (fun _ _ _ h => h) (Or.inl ⟨by rfl, ?tky5018⟩) hH5006 ?tkr5018
    case tky5018 => (intro w' hSw; clear hSw; go_simp; try with_reducible rfl)
    try simp only [Act.put, List.setIfInBounds_toArray, List.set_cons_zero, List.set_cons_succ]
    refine wpAnyH_take (i := 18) (oi := { dst := some 44, op := Op.load 3 (Operand.tmp 43), type := 3, pos := "more.go:38", after := #[{ on := 17, ground := Ground.data }, { on := 14, ground := Ground.guard }], guard := some (14, true) }) (v := ?tkv5019) rfl (by kernel_rfl) (by kernel_rfl) (by kernel_rfl) (fun _ _ _ h => h) (Or.inl ⟨by rfl, ?tky5019⟩) hH5006 ?tkr5019
    case tky5019 => (intro w' hSw; have z0 := F3a.out _ hSw; have z1 := F3t.out _ hSw; have z2 := F3f.out _ hSw; have z3 := F1a.out _ hSw; have z4 := F1f.out _ hSw; have z5 := F1v0.out _ hSw; clear hSw; go_simp; try with_reducible rfl)
    try simp only [Act.put, List.setIfInBounds_toArray, List.set_cons_zero, List.set_cons_succ]
    refine wpAnyH_take (i := 19) (oi := { dst := some 45, op := Op.fieldAddr 30 (Operand.tmp 1) 4, type := 0, pos := "more.go:38", after := #[{ on := 14, ground := Ground.guard }], guard := some (14, true) }) (v := ?tkv5020) rfl (by kernel_rfl) (by kernel_rfl) (by kernel_rfl) (fun _ _ _ h => h) (Or.inl ⟨by rfl, ?tky5020⟩) hH5006 ?tkr5020
    case tky5020 => (intro w' hSw; clear hSw; go_simp; try with_reducible rfl)
    try simp only [Act.put, List.setIfInBounds_toArray, List.set_cons_zero, List.set_cons_succ]
    refine wpAnyH_take (i := 20) (oi := { dst := some 46, op := Op.indexAddr 26 (Operand.tmp 45) (Operand.tmp 44), type := 0, pos := "more.go:38", after := #[{ on := 19, ground := Ground.data }, { on := 18, ground := Ground.data }, { on := 14, ground := Ground.guard }], guard := some (14, true) }) (v := ?tkv5021) rfl (by kernel_rfl) (by kernel_rfl) (by kernel_rfl) (fun _ _ _ h => h) (Or.inl ⟨by rfl, ?tky5021⟩) hH5006 ?tkr5021
    case tky5021 => (intro w' hSw; clear hSw; go_simp; try with_reducible rfl)
    try simp only [Act.put, List.setIfInBounds_toArray, List.set_cons_zero, List.set_cons_succ]
    refine wpAnyH_take (i := 21) (oi := { dst := some 47, op := Op.fieldAddr 25 (Operand.tmp 46) 0, type := 0, pos := "more.go:38", after := #[{ on := 20, ground := Ground.data }, { on := 14, ground := Ground.guard }], guard := some (14, true) }) (v := ?tkv5022) rfl (by kernel_rfl) (by kernel_rfl) (by kernel_rfl) (fun _ _ _ h => h) (Or.inl ⟨by rfl, ?tky5022⟩) hH5006 ?tkr5022
    case tky5022 => (intro w' hSw; clear hSw; go_simp; try with_reducible rfl)
    try simp only [Act.put, List.setIfInBounds_toArray, List.set_cons_zero, List.set_cons_succ]
    refine wpAnyH_take (i := 22) (oi := { dst := some 48, op := Op.load 22 (Operand.tmp 47), type := 22, pos := "more.go:38", after := #[{ on := 21, ground := Ground.data }, { on := 14, ground := Ground.guard }], guard := some (14, true) }) (v := ?tkv5023) rfl (by kernel_rfl) (by kernel_rfl) (by kernel_rfl) (fun _ _ _ h => h) (Or.inl ⟨by rfl, ?tky5023⟩) hH5006 ?tkr5023
    case tky5023 => (intro w' hSw; have z0 := F3a.out _ hSw; have z1 := F3t.out _ hSw; have z2 := F3f.out _ hSw; have z3 := F1a.out _ hSw; have z4 := F1f.out _ hSw; have z5 := F1v0.out _ hSw; clear hSw; go_simp; try with_reducible rfl)
    try simp only [Act.put, List.setIfInBounds_toArray, List.set_cons_zero, List.set_cons_succ]
    refine wpAnyH_take (i := 23) (oi := { dst := some 49, op := Op.binOp BinOp.geq 22 (Operand.tmp 42) (Operand.tmp 48) 22, type := 4, pos := "more.go:38", after := #[{ on := 16, ground := Ground.data }, { on := 22, ground := Ground.data }, { on := 14, ground := Ground.guard }], guard := some (14, true) }) (v := ?tkv5024) rfl (by kernel_rfl) (by kernel_rfl) (by kernel_rfl) (fun _ _ _ h => h) (Or.inl ⟨by rfl, ?tky5024⟩) hH5006 ?tkr5024
    case tky5024 => (intro w' hSw; have q2 := Q2.out; have q2n := Q2n.out; clear hSw; go_simp; try with_reducible rfl)
    try simp only [Act.put, List.setIfInBounds_toArray, List.set_cons_zero, List.set_cons_succ]
    refine wpAnyH_take (i := 24) (oi := { dst := some 50, op := Op.pick (Operand.tmp 40) (Operand.tmp 49) (Operand.const (Value.bool false)), type := 4, pos := "more.go:38", after := #[{ on := 14, ground := Ground.data }, { on := 23, ground := Ground.data }], guard := none }) (v := ?tkv5025) rfl (by kernel_rfl) (by kernel_rfl) (by kernel_rfl) (fun _ _ _ h => h) (Or.inl ⟨by rfl, ?tky5025⟩) hH5006 ?tkr5025
    case tky5025 => (intro w' hSw; clear hSw; go_simp; try with_reducible rfl)
    try simp only [Act.put, List.setIfInBounds_toArray, List.set_cons_zero, List.set_cons_succ]
    refine wpAnyH_take (i := 25) (oi := { dst := some 51, op := Op.move (Operand.tmp 50), type := 4, pos := "more.go:38", after := #[{ on := 24, ground := Ground.data }, { on := 14, ground := Ground.chain }], guard := none }) (v := ?tkv5026) rfl (by kernel_rfl) (by kernel_rfl) (by kernel_rfl) (fun _ _ _ h => h) (Or.inl ⟨by rfl, ?tky5026⟩) hH5006 ?tkr5026
    case tky5026 => (intro w' hSw; clear hSw; go_simp; try with_reducible rfl)
    try simp only [Act.put, List.setIfInBounds_toArray, List.set_cons_zero, List.set_cons_succ]
    refine wpAnyH_take (i := 26) (oi := { dst := some 52, op := Op.fieldAddr 30 (Operand.tmp 3) 1, type := 0, pos := "more.go:38", after := #[{ on := 25, ground := Ground.guard }], guard := some (25, true) }) (v := ?tkv5027) rfl (by kernel_rfl) (by kernel_rfl) (by kernel_rfl) (fun _ _ _ h => h) (Or.inl ⟨by rfl, ?tky5027⟩) hH5006 ?tkr5027
    case tky5027 => (intro w' hSw; clear hSw; go_simp; try with_reducible rfl)
    try simp only [Act.put, List.setIfInBounds_toArray, List.set_cons_zero, List.set_cons_succ]
    refine wpAnyH_take (i := 27) (oi := { dst := some 53, op := Op.load 3 (Operand.tmp 52), type := 3, pos := "more.go:38", after := #[{ on := 26, ground := Ground.data }, { on := 25, ground := Ground.guard }], guard := some (25, true) }) (v := ?tkv5028) rfl (by kernel_rfl) (by kernel_rfl) (by kernel_rfl) (fun _ _ _ h => h) (Or.inl ⟨by rfl, ?tky5028⟩) hH5006 ?tkr5028
    case tky5028 => (intro w' hSw; have z0 := F3a.out _ hSw; have z1 := F3t.out _ hSw; have z2 := F3f.out _ hSw; have z3 := F1a.out _ hSw; have z4 := F1f.out _ hSw; have z5 := F1v0.out _ hSw; clear hSw; go_simp; try with_reducible rfl)
    try simp only [Act.put, List.setIfInBounds_toArray, List.set_cons_zero, List.set_cons_succ]
    refine wpAnyH_take (i := 28) (oi := { dst := some 54, op := Op.binOp BinOp.eql 3 (Operand.tmp 53) (Operand.const (Value.int IntKind.i64 0)) 3, type := 4, pos := "more.go:38", after := #[{ on := 27, ground := Ground.data }, { on := 25, ground := Ground.guard }], guard := some (25, true) }) (v := ?tkv5029) rfl (by kernel_rfl) (by kernel_rfl) (by kernel_rfl) (fun _ _ _ h => h) (Or.inl ⟨by rfl, ?tky5029⟩) hH5006 ?tkr5029
    case tky5029 => (intro w' hSw; clear hSw; go_simp; try with_reducible rfl)
    try simp only [Act.put, List.setIfInBounds_toArray, List.set_cons_zero, List.set_cons_succ]
    refine wpAnyH_take (i := 29) (oi := { dst := some 55, op := Op.pick (Operand.tmp 51) (Operand.tmp 54) (Operand.const (Value.bool false)), type := 4, pos := "more.go:38", after := #[{ on := 25, ground := Ground.data }, { on := 28, ground := Ground.data }], guard := none }) (v := ?tkv5030) rfl (by kernel_rfl) (by kernel_rfl) (by kernel_rfl) (fun _ _ _ h => h) (Or.inl ⟨by rfl, ?tky5030⟩) hH5006 ?tkr5030
    case tky5030 => (intro w' hSw; clear hSw; go_simp; try with_reducible rfl)
    try simp only [Act.put, List.setIfInBounds_toArray, List.set_cons_zero, List.set_cons_succ]
    refine wpAnyH_take (i := 30) (oi := { dst := some 56, op := Op.move (Operand.tmp 55), type := 4, pos := "more.go:38", after := #[{ on := 29, ground := Ground.data }, { on := 25, ground := Ground.chain }], guard := none }) (v := ?tkv5031) rfl (by kernel_rfl) (by kernel_rfl) (by kernel_rfl) (fun _ _ _ h => h) (Or.inl ⟨by rfl, ?tky5031⟩) hH5006 ?tkr5031
    case tky5031 => (intro w' hSw; clear hSw; go_simp; try with_reducible rfl)
    try simp only [Act.put, List.setIfInBounds_toArray, List.set_cons_zero, List.set_cons_succ]
    refine wpAnyH_take (i := 31) (oi := { dst := some 57, op := Op.fieldAddr 30 (Operand.tmp 3) 0, type := 0, pos := "more.go:38", after := #[{ on := 30, ground := Ground.guard }], guard := some (30, true) }) (v := ?tkv5032) rfl (by kernel_rfl) (by kernel_rfl) (by kernel_rfl) (fun _ _ _ h => h) (Or.inl ⟨by rfl, ?tky5032⟩) hH5006 ?tkr5032
    case tky5032 => (intro w' hSw; clear hSw; go_simp; try with_reducible rfl)
    try simp only [Act.put, List.setIfInBounds_toArray, List.set_cons_zero, List.set_cons_succ]
    refine wpAnyH_take (i := 32) (oi := { dst := some 58, op := Op.load 3 (Operand.tmp 57), type := 3, pos := "more.go:38", after := #[{ on := 31, ground := Ground.data }, { on := 30, ground := Ground.guard }], guard := some (30, true) }) (v := ?tkv5033) rfl (by kernel_rfl) (by kernel_rfl) (by kernel_rfl) (fun _ _ _ h => h) (Or.inl ⟨by rfl, ?tky5033⟩) hH5006 ?tkr5033
    case tky5033 => (intro w' hSw; have z0 := F3a.out _ hSw; have z1 := F3t.out _ hSw; have z2 := F3f.out _ hSw; have z3 := F1a.out _ hSw; have z4 := F1f.out _ hSw; have z5 := F1v0.out _ hSw; clear hSw; go_simp; try with_reducible rfl)
    try simp only [Act.put, List.setIfInBounds_toArray, List.set_cons_zero, List.set_cons_succ]
    refine wpAnyH_take (i := 33) (oi := { dst := some 59, op := Op.fieldAddr 30 (Operand.tmp 1) 0, type := 0, pos := "more.go:38", after := #[{ on := 30, ground := Ground.guard }], guard := some (30, true) }) (v := ?tkv5034) rfl (by kernel_rfl) (by kernel_rfl) (by kernel_rfl) (fun _ _ _ h => h) (Or.inl ⟨by rfl, ?tky5034⟩) hH5006 ?tkr5034
    case tky5034 => (intro w' hSw; clear hSw; go_simp; try with_reducible rfl)
    try simp only [Act.put, List.setIfInBounds_toArray, List.set_cons_zero, List.set_cons_succ]
    refine wpAnyH_take (i := 34) (oi := { dst := some 60, op := Op.load 3 (Operand.tmp 59), type := 3, pos := "more.go:38", after := #[{ on := 33, ground := Ground.data }, { on := 30, ground := Ground.guard }], guard := some (30, true) }) (v := ?tkv5035) rfl (by kernel_rfl) (by kernel_rfl) (by kernel_rfl) (fun _ _ _ h => h) (Or.inl ⟨by rfl, ?tky5035⟩) hH5006 ?tkr5035
    case tky5035 => (intro w' hSw; have z0 := F3a.out _ hSw; have z1 := F3t.out _ hSw; have z2 := F3f.out _ hSw; have z3 := F1a.out _ hSw; have z4 := F1f.out _ hSw; have z5 := F1v0.out _ hSw; clear hSw; go_simp; try with_reducible rfl)
    try simp only [Act.put, List.setIfInBounds_toArray, List.set_cons_zero, List.set_cons_succ]
    refine wpAnyH_take (i := 35) (oi := { dst := some 61, op := Op.binOp BinOp.eql 3 (Operand.tmp 58) (Operand.tmp 60) 3, type := 4, pos := "more.go:38", after := #[{ on := 32, ground := Ground.data }, { on := 34, ground := Ground.data }, { on := 30, ground := Ground.guard }], guard := some (30, true) }) (v := ?tkv5036) rfl (by kernel_rfl) (by kernel_rfl) (by kernel_rfl) (fun _ _ _ h => h) (Or.inl ⟨by rfl, ?tky5036⟩) hH5006 ?tkr5036
    case tky5036 => (intro w' hSw; clear hSw; go_simp; try with_reducible rfl)
    try simp only [Act.put, List.setIfInBounds_toArray, List.set_cons_zero, List.set_cons_succ]
    refine wpAnyH_take (i := 36) (oi := { dst := some 62, op := Op.pick (Operand.tmp 56) (Operand.tmp 61) (Operand.const (Value.bool false)), type := 4, pos := "more.go:38", after := #[{ on := 30, ground := Ground.data }, { on := 35, ground := Ground.data }], guard := none }) (v := ?tkv5037) rfl (by kernel_rfl) (by kernel_rfl) (by kernel_rfl) (fun _ _ _ h => h) (Or.inl ⟨by rfl, ?tky5037⟩) hH5006 ?tkr5037
    case tky5037 => (intro w' hSw; clear hSw; go_simp; try with_reducible rfl)
    try simp only [Act.put, List.setIfInBounds_toArray, List.set_cons_zero, List.set_cons_succ]
    refine wpAnyH_take (i := 37) (oi := { dst := some 63, op := Op.move (Operand.tmp 62), type := 4, pos := "more.go:38", after := #[{ on := 36, ground := Ground.data }, { on := 30, ground := Ground.chain }], guard := none }) (v := ?tkv5038) rfl (by kernel_rfl) (by kernel_rfl) (by kernel_rfl) (fun _ _ _ h => h) (Or.inl ⟨by rfl, ?tky5038⟩) hH5006 ?tkr5038
    case tky5038 => (intro w' hSw; clear hSw; go_simp; try with_reducible rfl)
    try simp only [Act.put, List.setIfInBounds_toArray, List.set_cons_zero, List.set_cons_succ]
    refine wpAnyH_ready (rs := [38]) (by kernel_rfl) (by simp) ?_
    refine AllReadyH.cons (o := { dst := some 64, op := Op.call { callee := Callee.value (Operand.func 9), args := #[], argTypes := #[] }, type := 4, pos := "more.go:38", after := #[{ on := 37, ground := Ground.chain }, { on := 37, ground := Ground.guard }], guard := some (37, true) }) rfl (fun K hK => ?_) AllReadyH.nil
    go_simp
    refine (awake21_any _ (HT.out.below (HE.out wn5006 (hH5006)).b HT.out.1)).mono ?_
    rintro e' wn5039 ⟨rfl, hb5039⟩
    go_simp
    have hS5039 : Below (wC.heap.size) wC wn5039 := (hH5006).trans (hb5039.mono (hH5006).size)
    refine hK.out _ _ hS5039 (fun hH5039 => ?_)
    have hH5039 : Below (wC.heap.size) wC wn5039 := hH5039
    clear hK K hS5039
    try simp only [Act.put, List.setIfInBounds_toArray, List.set_cons_zero, List.set_cons_succ]
    refine wpAnyH_take (i := 39) (oi := { dst := some 65, op := Op.pick (Operand.tmp 63) (Operand.tmp 64) (Operand.const (Value.bool false)), type := 4, pos := "more.go:38", after := #[{ on := 37, ground := Ground.data }, { on := 38, ground := Ground.data }], guard := none }) (v := ?tkv5040) rfl (by kernel_rfl) (by kernel_rfl) (by kernel_rfl) (fun _ _ _ h => h) (Or.inl ⟨by rfl, ?tky5040⟩) hH5039 ?tkr5040
    case tky5040 => (intro w' hSw; clear hSw; go_simp; try with_reducible rfl)
    try simp only [Act.put, List.setIfInBounds_toArray, List.set_cons_zero, List.set_cons_succ]
    refine wpAnyH_take (i := 40) (oi := { dst := some 2, op := Op.assign (Operand.tmp 65), type := 4, pos := "more.go:38", after := #[{ on := 39, ground := Ground.data }, { on := 38, ground := Ground.chain }, { on := 0, ground := Ground.phase }, { on := 1, ground := Ground.phase }, { on := 2, ground := Ground.phase }, { on := 3, ground := Ground.phase }, { on := 4, ground := Ground.phase }, { on := 5, ground := Ground.phase }, { on := 6, ground := Ground.phase }, { on := 7, ground := Ground.phase }, { on := 8, ground := Ground.phase }, { on := 9, ground := Ground.phase }, { on := 10, ground := Ground.phase }, { on := 11, ground := Ground.phase }, { on := 12, ground := Ground.phase }, { on := 13, ground := Ground.phase }, { on := 14, ground := Ground.phase }, { on := 15, ground := Ground.phase }, { on := 16, ground := Ground.phase }, { on := 17, ground := Ground.phase }, { on := 18, ground := Ground.phase }, { on := 19, ground := Ground.phase }, { on := 20, ground := Ground.phase }, { on := 21, ground := Ground.phase }, { on := 22, ground := Ground.phase }, { on := 23, ground := Ground.phase }, { on := 24, ground := Ground.phase }, { on := 25, ground := Ground.phase }, { on := 26, ground := Ground.phase }, { on := 27, ground := Ground.phase }, { on := 28, ground := Ground.phase }, { on := 29, ground := Ground.phase }, { on := 30, ground := Ground.phase }, { on := 31, ground := Ground.phase }, { on := 32, ground := Ground.phase }, { on := 33, ground := Ground.phase }, { on := 34, ground := Ground.phase }, { on := 35, ground := Ground.phase }, { on := 36, ground := Ground.phase }, { on := 37, ground := Ground.phase }, { on := 38, ground := Ground.phase }, { on := 39, ground := Ground.phase }], guard := none }) (v := ?tkv5041) rfl (by kernel_rfl) (by kernel_rfl) (by kernel_rfl) (fun _ _ _ h => h) (Or.inl ⟨by rfl, ?tky5041⟩) hH5039 ?tkr5041
    case tky5041 => (intro w' hSw; clear hSw; go_simp; try with_reducible rfl)
    try simp only [Act.put, List.setIfInBounds_toArray, List.set_cons_zero, List.set_cons_succ]
    refine wpAnyH_done (by kernel_rfl) ?_ _
    refine NoPanic.normal ?_
    have HEND := Lib.hid ((HE.out _ (hH5039)).b)
    go_wp2_with fail
    go_ret
    exact ⟨rfl, HEND.out⟩
  · rw [ha] at C3a CA hKf
    have Q2 : Hid (decide ((L.v1 : Int) ≤ (KF : Int)) = true) := Lib.hid (by rw [decide_eq_true_eq]; have := Nat.le_max_right L.flo L.v1; simp only [Int.one_ne_zero, if_false] at hKf; omega)
    have Q2n : Hid (L.v1 ≤ KF) := Lib.hid (by have := Q2.out; rw [decide_eq_true_eq] at this; omega)
    have F3a : Hid (∀ W, Below wC.heap.size wC W → W.cell? ⟨g3, 0, none⟩ = some (.int .i64 1)) := Lib.hid (fun W hW => ((HE.out W hW).cell (.tail _ (.head _)) 0).trans C3a.out)
    have F1a : Hid (∀ W, Below wC.heap.size wC W → W.cell? ⟨w.heap.size, 0, none⟩ = some (.int .i64 1)) := Lib.hid (fun W hW => ((HE.out W hW).cell (.tail _ (.tail _ (.head _))) 0).trans CA.out)
    clear C3a CA hKf ha hl
    refine wp_region_noPanic ?_
    refine wp_region_held_drew (S := (fun W => Below (wC.heap.size) wC W)) (by kernel_rfl) (Below.refl _ _).drew (fun hH0 => ?_)
    have hH0 : Below (wC.heap.size) wC wC.drew := hH0
    generalize wC.drew = wd6000 at *
    refine wpAnyH_take (i := 0) (oi := { dst := some 26, op := Op.move (Operand.tmp 6), type := 4, pos := "more.go:38", after := #[], guard := none }) (v := ?tkv6001) rfl (by kernel_rfl) (by kernel_rfl) (by kernel_rfl) (fun _ _ _ h => h) (Or.inl ⟨by rfl, ?tky6001⟩) hH0 ?tkr6001
    case tky6001 => (intro w' hSw; clear hSw; go_simp; try with_reducible rfl)
    try simp only [Act.put, List.setIfInBounds_toArray, List.set_cons_zero, List.set_cons_succ]
    refine wpAnyH_take (i := 1) (oi := { dst := some 27, op := Op.unOp UnOp.not 4 (Operand.tmp 26), type := 4, pos := "more.go:38", after := #[{ on := 0, ground := Ground.data }], guard := none }) (v := ?tkv6002) rfl (by kernel_rfl) (by kernel_rfl) (by kernel_rfl) (fun _ _ _ h => h) (Or.inl ⟨by rfl, ?tky6002⟩) hH0 ?tkr6002
    case tky6002 => (intro w' hSw; clear hSw; go_simp; try with_reducible rfl)
    try simp only [Act.put, List.setIfInBounds_toArray, List.set_cons_zero, List.set_cons_succ]
    refine wpAnyH_take (i := 2) (oi := { dst := some 28, op := Op.move (Operand.tmp 27), type := 4, pos := "more.go:38", after := #[{ on := 1, ground := Ground.data }], guard := none }) (v := ?tkv6003) rfl (by kernel_rfl) (by kernel_rfl) (by kernel_rfl) (fun _ _ _ h => h) (Or.inl ⟨by rfl, ?tky6003⟩) hH0 ?tkr6003
    case tky6003 => (intro w' hSw; clear hSw; go_simp; try with_reducible rfl)
    try simp only [Act.put, List.setIfInBounds_toArray, List.set_cons_zero, List.set_cons_succ]
    refine wpAnyH_take (i := 3) (oi := { dst := some 29, op := Op.load 30 (Operand.tmp 3), type := 30, pos := "more.go:38", after := #[{ on := 2, ground := Ground.guard }], guard := some (2, true) }) (v := .agg c3) rfl (by kernel_rfl) (by kernel_rfl) (by kernel_rfl) (fun _ _ _ h => h) (yields_row (by rfl) _ _ rfl (g3) rfl _ _ _ _ (fun W hW => (HE.out W hW).bx _ _ _ (.tail _ (.head _))) Tryd.underlying30 rfl I3.out) hH0 ?tkr6004
    try simp only [Act.put, List.setIfInBounds_toArray, List.set_cons_zero, List.set_cons_succ]
    refine wpAnyH_take (i := 4) (oi := { dst := some 30, op := Op.load 30 (Operand.tmp 5), type := 30, pos := "more.go:38", after := #[{ on := 2, ground := Ground.guard }], guard := some (2, true) }) (v := .agg c4) rfl (by kernel_rfl) (by kernel_rfl) (by kernel_rfl) (fun _ _ _ h => h) (yields_row (by rfl) _ _ rfl (g4) rfl _ _ _ _ (fun W hW => (HE.out W hW).bx _ _ _ (.head _)) Tryd.underlying30 rfl I4.out) hH0 ?tkr6005
    try simp only [Act.put, List.setIfInBounds_toArray, List.set_cons_zero, List.set_cons_succ]
    refine wpAnyH_ready (rs := [5]) (by kernel_rfl) (by simp) ?_
    refine AllReadyH.cons (o := { dst := some 31, op := Op.call { callee := Callee.value (Operand.func 22), args := #[Operand.tmp 29, Operand.tmp 30], argTypes := #[30, 30] }, type := 4, pos := "more.go:38", after := #[{ on := 3, ground := Ground.data }, { on := 4, ground := Ground.data }, { on := 2, ground := Ground.chain }, { on := 2, ground := Ground.guard }], guard := some (2, true) }) rfl (fun K hK => ?_) AllReadyH.nil
    go_simp
    refine (sameS ((HE.out wd6000 (hH0)).st _ _ (.tail _ (.head _))) ((HE.out wd6000 (hH0)).st _ _ (.head _))).mono ?_
    rintro e' wn6006 ⟨rfl, hb6006⟩
    rw [eqb_refl]
    go_simp
    have hS6006 : Below (wC.heap.size) wC wn6006 := (hH0).trans (hb6006.mono (hH0).size)
    refine hK.out _ _ hS6006 (fun hH6006 => ?_)
    have hH6006 : Below (wC.heap.size) wC wn6006 := hH6006
    clear hK K hS6006
    try simp only [Act.put, List.setIfInBounds_toArray, List.set_cons_zero, List.set_cons_succ]
    refine wpAnyH_take (i := 6) (oi := { dst := some 32, op := Op.pick (Operand.tmp 28) (Operand.tmp 31) (Operand.const (Value.bool false)), type := 4, pos := "more.go:38", after := #[{ on := 2, ground := Ground.data }, { on := 5, ground := Ground.data }], guard := none }) (v := ?tkv6007) rfl (by kernel_rfl) (by kernel_rfl) (by kernel_rfl) (fun _ _ _ h => h) (Or.inl ⟨by rfl, ?tky6007⟩) hH6006 ?tkr6007
    case tky6007 => (intro w' hSw; clear hSw; go_simp; try with_reducible rfl)
    try simp only [Act.put, List.setIfInBounds_toArray, List.set_cons_zero, List.set_cons_succ]
    refine wpAnyH_take (i := 7) (oi := { dst := some 33, op := Op.move (Operand.tmp 32), type := 4, pos := "more.go:38", after := #[{ on := 6, ground := Ground.data }, { on := 5, ground := Ground.chain }], guard := none }) (v := ?tkv6008) rfl (by kernel_rfl) (by kernel_rfl) (by kernel_rfl) (fun _ _ _ h => h) (Or.inl ⟨by rfl, ?tky6008⟩) hH6006 ?tkr6008
    case tky6008 => (intro w' hSw; clear hSw; go_simp; try with_reducible rfl)
    try simp only [Act.put, List.setIfInBounds_toArray, List.set_cons_zero, List.set_cons_succ]
    refine wpAnyH_take (i := 8) (oi := { dst := some 34, op := Op.fieldAddr 30 (Operand.tmp 3) 2, type := 0, pos := "more.go:38", after := #[{ on := 7, ground := Ground.guard }], guard := some (7, true) }) (v := ?tkv6009) rfl (by kernel_rfl) (by kernel_rfl) (by kernel_rfl) (fun _ _ _ h => h) (Or.inl ⟨by rfl, ?tky6009⟩) hH6006 ?tkr6009
    case tky6009 => (intro w' hSw; clear hSw; go_simp; try with_reducible rfl)
    try simp only [Act.put, List.setIfInBounds_toArray, List.set_cons_zero, List.set_cons_succ]
    refine wpAnyH_take (i := 9) (oi := { dst := some 35, op := Op.load 22 (Operand.tmp 34), type := 22, pos := "more.go:38", after := #[{ on := 8, ground := Ground.data }, { on := 7, ground := Ground.guard }], guard := some (7, true) }) (v := ?tkv6010) rfl (by kernel_rfl) (by kernel_rfl) (by kernel_rfl) (fun _ _ _ h => h) (Or.inl ⟨by rfl, ?tky6010⟩) hH6006 ?tkr6010
    case tky6010 => (intro w' hSw; have z0 := F3a.out _ hSw; have z1 := F3t.out _ hSw; have z2 := F3f.out _ hSw; have z3 := F1a.out _ hSw; have z4 := F1f.out _ hSw; have z5 := F1v1.out _ hSw; clear hSw; go_simp; try with_reducible rfl)
    try simp only [Act.put, List.setIfInBounds_toArray, List.set_cons_zero, List.set_cons_succ]
    refine wpAnyH_take (i := 10) (oi := { dst := some 36, op := Op.fieldAddr 30 (Operand.tmp 1) 2, type := 0, pos := "more.go:38", after := #[{ on := 7, ground := Ground.guard }], guard := some (7, true) }) (v := ?tkv6011) rfl (by kernel_rfl) (by kernel_rfl) (by kernel_rfl) (fun _ _ _ h => h) (Or.inl ⟨by rfl, ?tky6011⟩) hH6006 ?tkr6011
    case tky6011 => (intro w' hSw; clear hSw; go_simp; try with_reducible rfl)
    try simp only [Act.put, List.setIfInBounds_toArray, List.set_cons_zero, List.set_cons_succ]
    refine wpAnyH_take (i := 11) (oi := { dst := some 37, op := Op.load 22 (Operand.tmp 36), type := 22, pos := "more.go:38", after := #[{ on := 10, ground := Ground.data }, { on := 7, ground := Ground.guard }], guard := some (7, true) }) (v := ?tkv6012) rfl (by kernel_rfl) (by kernel_rfl) (by kernel_rfl) (fun _ _ _ h => h) (Or.inl ⟨by rfl, ?tky6012⟩) hH6006 ?tkr6012
    case tky6012 => (intro w' hSw; have z0 := F3a.out _ hSw; have z1 := F3t.out _ hSw; have z2 := F3f.out _ hSw; have z3 := F1a.out _ hSw; have z4 := F1f.out _ hSw; have z5 := F1v1.out _ hSw; clear hSw; go_simp; try with_reducible rfl)
    try simp only [Act.put, List.setIfInBounds_toArray, List.set_cons_zero, List.set_cons_succ]
    refine wpAnyH_take (i := 12) (oi := { dst := some 38, op := Op.binOp BinOp.geq 22 (Operand.tmp 35) (Operand.tmp 37) 22, type := 4, pos := "more.go:38", after := #[{ on := 9, ground := Ground.data }, { on := 11, ground := Ground.data }, { on := 7, ground := Ground.guard }], guard := some (7, true) }) (v := ?tkv6013) rfl (by kernel_rfl) (by kernel_rfl) (by kernel_rfl) (fun _ _ _ h => h) (Or.inl ⟨by rfl, ?tky6013⟩) hH6006 ?tkr6013
    case tky6013 => (intro w' hSw; have q1 := Q1.out; have q1n := Q1n.out; clear hSw; go_simp; try with_reducible rfl)
    try simp only [Act.put, List.setIfInBounds_toArray, List.set_cons_zero, List.set_cons_succ]
    refine wpAnyH_take (i := 13) (oi := { dst := some 39, op := Op.pick (Operand.tmp 33) (Operand.tmp 38) (Operand.const (Value.bool false)), type := 4, pos := "more.go:38", after := #[{ on := 7, ground := Ground.data }, { on := 12, ground := Ground.data }], guard := none }) (v := ?tkv6014) rfl (by kernel_rfl) (by kernel_rfl) (by kernel_rfl) (fun _ _ _ h => h) (Or.inl ⟨by rfl, ?tky6014⟩) hH6006 ?tkr6014
    case tky6014 => (intro w' hSw; clear hSw; go_simp; try with_reducible rfl)
    try simp only [Act.put, List.setIfInBounds_toArray, List.set_cons_zero, List.set_cons_succ]
    refine wpAnyH_take (i := 14) (oi := { dst := some 40, op := Op.move (Operand.tmp 39), type := 4, pos := "more.go:38", after := #[{ on := 13, ground := Ground.data }, { on := 7, ground := Ground.chain }], guard := none }) (v := ?tkv6015) rfl (by kernel_rfl) (by kernel_rfl) (by kernel_rfl) (fun _ _ _ h => h) (Or.inl ⟨by rfl, ?tky6015⟩) hH6006 ?tkr6015
    case tky6015 => (intro w' hSw; clear hSw; go_simp; try with_reducible rfl)
    try simp only [Act.put, List.setIfInBounds_toArray, List.set_cons_zero, List.set_cons_succ]
    refine wpAnyH_take (i := 15) (oi := { dst := some 41, op := Op.fieldAddr 30 (Operand.tmp 3) 2, type := 0, pos := "more.go:38", after := #[{ on := 14, ground := Ground.guard }], guard := some (14, true) }) (v := ?tkv6016) rfl (by kernel_rfl) (by kernel_rfl) (by kernel_rfl) (fun _ _ _ h => h) (Or.inl ⟨by rfl, ?tky6016⟩) hH6006 ?tkr6016
    case tky6016 => (intro w' hSw; clear hSw; go_simp; try with_reducible rfl)
    try simp only [Act.put, List.setIfInBounds_toArray, List.set_cons_zero, List.set_cons_succ]
    refine wpAnyH_take (i := 16) (oi := { dst := some 42, op := Op.load 22 (Operand.tmp 41), type := 22, pos := "more.go:38", after := #[{ on := 15, ground := Ground.data }, { on := 14, ground := Ground.guard }], guard := some (14, true) }) (v := ?tkv6017) rfl (by kernel_rfl) (by kernel_rfl) (by kernel_rfl) (fun _ _ _ h => h) (Or.inl ⟨by rfl, ?tky6017⟩) hH6006 ?tkr6017
    case tky6017 => (intro w' hSw; have z0 := F3a.out _ hSw; have z1 := F3t.out _ hSw; have z2 := F3f.out _ hSw; have z3 := F1a.out _ hSw; have z4 := F1f.out _ hSw; have z5 := F1v1.out _ hSw; clear hSw; go_simp; try with_reducible rfl)
    try simp only [Act.put, List.setIfInBounds_toArray, List.set_cons_zero, List.set_cons_succ]
    refine wpAnyH_take (i := 17) (oi := { dst := some 43, op := Op.fieldAddr 30 (Operand.tmp 1) 0, type := 0, pos := "more.go:38", after := #[{ on := 14, ground := Ground.guard }], guard := some (14, true) }) (v := ?tkv6018) rfl (by kernel_rfl) (by kernel_rfl) (by kernel_rfl) (fun _ _ _ h => h) (Or.inl ⟨by rfl, ?tky6018⟩) hH6006 ?tkr6018
    case tky6018 => (intro w' hSw; clear hSw; go_simp; try with_reducible rfl)
    try simp only [Act.put, List.setIfInBounds_toArray, List.set_cons_zero, List.set_cons_succ]
    refine wpAnyH_take (i := 18) (oi := { dst := some 44, op := Op.load 3 (Operand.tmp 43), type := 3, pos := "more.go:38", after := #[{ on := 17, ground := Ground.data }, { on := 14, ground := Ground.guard }], guard := some (14, true) }) (v := ?tkv6019) rfl (by kernel_rfl) (by kernel_rfl) (by kernel_rfl) (fun _ _ _ h => h) (Or.inl ⟨by rfl, ?tky6019⟩) hH6006 ?tkr6019
    case tky6019 => (intro w' hSw; have z0 := F3a.out _ hSw; have z1 := F3t.out _ hSw; have z2 := F3f.out _ hSw; have z3 := F1a.out _ hSw; have z4 := F1f.out _ hSw; have z5 := F1v1.out _ hSw; clear hSw; go_simp; try with_reducible rfl)
    try simp only [Act.put, List.setIfInBounds_toArray, List.set_cons_zero, List.set_cons_succ]
    refine wpAnyH_take (i := 19) (oi := { dst := some 45, op := Op.fieldAddr 30 (Operand.tmp 1) 4, type := 0, pos := "more.go:38", after := #[{ on := 14, ground := Ground.guard }], guard := some (14, true) }) (v := ?tkv6020) rfl (by kernel_rfl) (by kernel_rfl) (by kernel_rfl) (fun _ _ _ h => h) (Or.inl ⟨by rfl, ?tky6020⟩) hH6006 ?tkr6020
    case tky6020 => (intro w' hSw; clear hSw; go_simp; try with_reducible rfl)
    try simp only [Act.put, List.setIfInBounds_toArray, List.set_cons_zero, List.set_cons_succ]
    refine wpAnyH_take (i := 20) (oi := { dst := some 46, op := Op.indexAddr 26 (Operand.tmp 45) (Operand.tmp 44), type := 0, pos := "more.go:38", after := #[{ on := 19, ground := Ground.data }, { on := 18, ground := Ground.data }, { on := 14, ground := Ground.guard }], guard := some (14, true) }) (v := ?tkv6021) rfl (by kernel_rfl) (by kernel_rfl) (by kernel_rfl) (fun _ _ _ h => h) (Or.inl ⟨by rfl, ?tky6021⟩) hH6006 ?tkr6021
    case tky6021 => (intro w' hSw; clear hSw; go_simp; try with_reducible rfl)
    try simp only [Act.put, List.setIfInBounds_toArray, List.set_cons_zero, List.set_cons_succ]
    refine wpAnyH_take (i := 21) (oi := { dst := some 47, op := Op.fieldAddr 25 (Operand.tmp 46) 0, type := 0, pos := "more.go:38", after := #[{ on := 20, ground := Ground.data }, { on := 14, ground := Ground.guard }], guard := some (14, true) }) (v := ?tkv6022) rfl (by kernel_rfl) (by kernel_rfl) (by kernel_rfl) (fun _ _ _ h => h) (Or.inl ⟨by rfl, ?tky6022⟩) hH6006 ?tkr6022
    case tky6022 => (intro w' hSw; clear hSw; go_simp; try with_reducible rfl)
    try simp only [Act.put, List.setIfInBounds_toArray, List.set_cons_zero, List.set_cons_succ]
    refine wpAnyH_take (i := 22) (oi := { dst := some 48, op := Op.load 22 (Operand.tmp 47), type := 22, pos := "more.go:38", after := #[{ on := 21, ground := Ground.data }, { on := 14, ground := Ground.guard }], guard := some (14, true) }) (v := ?tkv6023) rfl (by kernel_rfl) (by kernel_rfl) (by kernel_rfl) (fun _ _ _ h => h) (Or.inl ⟨by rfl, ?tky6023⟩) hH6006 ?tkr6023
    case tky6023 => (intro w' hSw; have z0 := F3a.out _ hSw; have z1 := F3t.out _ hSw; have z2 := F3f.out _ hSw; have z3 := F1a.out _ hSw; have z4 := F1f.out _ hSw; have z5 := F1v1.out _ hSw; clear hSw; go_simp; try with_reducible rfl)
    try simp only [Act.put, List.setIfInBounds_toArray, List.set_cons_zero, List.set_cons_succ]
    refine wpAnyH_take (i := 23) (oi := { dst := some 49, op := Op.binOp BinOp.geq 22 (Operand.tmp 42) (Operand.tmp 48) 22, type := 4, pos := "more.go:38", after := #[{ on := 16, ground := Ground.data }, { on := 22, ground := Ground.data }, { on := 14, ground := Ground.guard }], guard := some (14, true) }) (v := ?tkv6024) rfl (by kernel_rfl) (by kernel_rfl) (by kernel_rfl) (fun _ _ _ h => h) (Or.inl ⟨by rfl, ?tky6024⟩) hH6006 ?tkr6024
    case tky6024 => (intro w' hSw; have q2 := Q2.out; have q2n := Q2n.out; clear hSw; go_simp; try with_reducible rfl)
    try simp only [Act.put, List.setIfInBounds_toArray, List.set_cons_zero, List.set_cons_succ]
    refine wpAnyH_take (i := 24) (oi := { dst := some 50, op := Op.pick (Operand.tmp 40) (Operand.tmp 49) (Operand.const (Value.bool false)), type := 4, pos := "more.go:38", after := #[{ on := 14, ground := Ground.data }, { on := 23, ground := Ground.data }], guard := none }) (v := ?tkv6025) rfl (by kernel_rfl) (by kernel_rfl) (by kernel_rfl) (fun _ _ _ h => h) (Or.inl ⟨by rfl, ?tky6025⟩) hH6006 ?tkr6025
    case tky6025 => (intro w' hSw; clear hSw; go_simp; try with_reducible rfl)
    try simp only [Act.put, List.setIfInBounds_toArray, List.set_cons_zero, List.set_cons_succ]
    refine wpAnyH_take (i := 25) (oi := { dst := some 51, op := Op.move (Operand.tmp 50), type := 4, pos := "more.go:38", after := #[{ on := 24, ground := Ground.data }, { on := 14, ground := Ground.chain }], guard := none }) (v := ?tkv6026) rfl (by kernel_rfl) (by kernel_rfl) (by kernel_rfl) (fun _ _ _ h => h) (Or.inl ⟨by rfl, ?tky6026⟩) hH6006 ?tkr6026
    case tky6026 => (intro w' hSw; clear hSw; go_simp; try with_reducible rfl)
    try simp only [Act.put, List.setIfInBounds_toArray, List.set_cons_zero, List.set_cons_succ]
    refine wpAnyH_take (i := 26) (oi := { dst := some 52, op := Op.fieldAddr 30 (Operand.tmp 3) 1, type := 0, pos := "more.go:38", after := #[{ on := 25, ground := Ground.guard }], guard := some (25, true) }) (v := ?tkv6027) rfl (by kernel_rfl) (by kernel_rfl) (by kernel_rfl) (fun _ _ _ h => h) (Or.inl ⟨by rfl, ?tky6027⟩) hH6006 ?tkr6027
    case tky6027 => (intro w' hSw; clear hSw; go_simp; try with_reducible rfl)
    try simp only [Act.put, List.setIfInBounds_toArray, List.set_cons_zero, List.set_cons_succ]
    refine wpAnyH_take (i := 27) (oi := { dst := some 53, op := Op.load 3 (Operand.tmp 52), type := 3, pos := "more.go:38", after := #[{ on := 26, ground := Ground.data }, { on := 25, ground := Ground.guard }], guard := some (25, true) }) (v := ?tkv6028) rfl (by kernel_rfl) (by kernel_rfl) (by kernel_rfl) (fun _ _ _ h => h) (Or.inl ⟨by rfl, ?tky6028⟩) hH6006 ?tkr6028
    case tky6028 => (intro w' hSw; have z0 := F3a.out _ hSw; have z1 := F3t.out _ hSw; have z2 := F3f.out _ hSw; have z3 := F1a.out _ hSw; have z4 := F1f.out _ hSw; have z5 := F1v1.out _ hSw; clear hSw; go_simp; try with_reducible rfl)
    try simp only [Act.put, List.setIfInBounds_toArray, List.set_cons_zero, List.set_cons_succ]
    refine wpAnyH_take (i := 28) (oi := { dst := some 54, op := Op.binOp BinOp.eql 3 (Operand.tmp 53) (Operand.const (Value.int IntKind.i64 0)) 3, type := 4, pos := "more.go:38", after := #[{ on := 27, ground := Ground.data }, { on := 25, ground := Ground.guard }], guard := some (25, true) }) (v := ?tkv6029) rfl (by kernel_rfl) (by kernel_rfl) (by kernel_rfl) (fun _ _ _ h => h) (Or.inl ⟨by rfl, ?tky6029⟩) hH6006 ?tkr6029
    case tky6029 => (intro w' hSw; clear hSw; go_simp; try with_reducible rfl)
    try simp only [Act.put, List.setIfInBounds_toArray, List.set_cons_zero, List.set_cons_succ]
    refine wpAnyH_take (i := 29) (oi := { dst := some 55, op := Op.pick (Operand.tmp 51) (Operand.tmp 54) (Operand.const (Value.bool false)), type := 4, pos := "more.go:38", after := #[{ on := 25, ground := Ground.data }, { on := 28, ground := Ground.data }], guard := none }) (v := ?tkv6030) rfl (by kernel_rfl) (by kernel_rfl) (by kernel_rfl) (fun _ _ _ h => h) (Or.inl ⟨by rfl, ?tky6030⟩) hH6006 ?tkr6030
    case tky6030 => (intro w' hSw; clear hSw; go_simp; try with_reducible rfl)
    try simp only [Act.put, List.setIfInBounds_toArray, List.set_cons_zero, List.set_cons_succ]
    refine wpAnyH_take (i := 30) (oi := { dst := some 56, op := Op.move (Operand.tmp 55), type := 4, pos := "more.go:38", after := #[{ on := 29, ground := Ground.data }, { on := 25, ground := Ground.chain }], guard := none }) (v := ?tkv6031) rfl (by kernel_rfl) (by kernel_rfl) (by kernel_rfl) (fun _ _ _ h => h) (Or.inl ⟨by rfl, ?tky6031⟩) hH6006 ?tkr6031
    case tky6031 => (intro w' hSw; clear hSw; go_simp; try with_reducible rfl)
    try simp only [Act.put, List.setIfInBounds_toArray, List.set_cons_zero, List.set_cons_succ]
    refine wpAnyH_take (i := 31) (oi := { dst := some 57, op := Op.fieldAddr 30 (Operand.tmp 3) 0, type := 0, pos := "more.go:38", after := #[{ on := 30, ground := Ground.guard }], guard := some (30, true) }) (v := ?tkv6032) rfl (by kernel_rfl) (by kernel_rfl) (by kernel_rfl) (fun _ _ _ h => h) (Or.inl ⟨by rfl, ?tky6032⟩) hH6006 ?tkr6032
    case tky6032 => (intro w' hSw; clear hSw; go_simp; try with_reducible rfl)
    try simp only [Act.put, List.setIfInBounds_toArray, List.set_cons_zero, List.set_cons_succ]
    refine wpAnyH_take (i := 32) (oi := { dst := some 58, op := Op.load 3 (Operand.tmp 57), type := 3, pos := "more.go:38", after := #[{ on := 31, ground := Ground.data }, { on := 30, ground := Ground.guard }], guard := some (30, true) }) (v := ?tkv6033) rfl (by kernel_rfl) (by kernel_rfl) (by kernel_rfl) (fun _ _ _ h => h) (Or.inl ⟨by rfl, ?tky6033⟩) hH6006 ?tkr6033
    case tky6033 => (intro w' hSw; have z0 := F3a.out _ hSw; have z1 := F3t.out _ hSw; have z2 := F3f.out _ hSw; have z3 := F1a.out _ hSw; have z4 := F1f.out _ hSw; have z5 := F1v1.out _ hSw; clear hSw; go_simp; try with_reducible rfl)
    try simp only [Act.put, List.setIfInBounds_toArray, List.set_cons_zero, List.set_cons_succ]
    refine wpAnyH_take (i := 33) (oi := { dst := some 59, op := Op.fieldAddr 30 (Operand.tmp 1) 0, type := 0, pos := "more.go:38", after := #[{ on := 30, ground := Ground.guard }], guard := some (30, true) }) (v := ?tkv6034) rfl (by kernel_rfl) (by kernel_rfl) (by kernel_rfl) (fun _ _ _ h => h) (Or.inl ⟨by rfl, ?tky6034⟩) hH6006 ?tkr6034
    case tky6034 => (intro w' hSw; clear hSw; go_simp; try with_reducible rfl)
    try simp only [Act.put, List.setIfInBounds_toArray, List.set_cons_zero, List.set_cons_succ]
    refine wpAnyH_take (i := 34) (oi := { dst := some 60, op := Op.load 3 (Operand.tmp 59), type := 3, pos := "more.go:38", after := #[{ on := 33, ground := Ground.data }, { on := 30, ground := Ground.guard }], guard := some (30, true) }) (v := ?tkv6035) rfl (by kernel_rfl) (by kernel_rfl) (by kernel_rfl) (fun _ _ _ h => h) (Or.inl ⟨by rfl, ?tky6035⟩) hH6006 ?tkr6035
    case tky6035 => (intro w' hSw; have z0 := F3a.out _ hSw; have z1 := F3t.out _ hSw; have z2 := F3f.out _ hSw; have z3 := F1a.out _ hSw; have z4 := F1f.out _ hSw; have z5 := F1v1.out _ hSw; clear hSw; go_simp; try with_reducible rfl)
    try simp only [Act.put, List.setIfInBounds_toArray, List.set_cons_zero, List.set_cons_succ]
    refine wpAnyH_take (i := 35) (oi := { dst := some 61, op := Op.binOp BinOp.eql 3 (Operand.tmp 58) (Operand.tmp 60) 3, type := 4, pos := "more.go:38", after := #[{ on := 32, ground := Ground.data }, { on := 34, ground := Ground.data }, { on := 30, ground := Ground.guard }], guard := some (30, true) }) (v := ?tkv6036) rfl (by kernel_rfl) (by kernel_rfl) (by kernel_rfl) (fun _ _ _ h => h) (Or.inl ⟨by rfl, ?tky6036⟩) hH6006 ?tkr6036
    case tky6036 => (intro w' hSw; clear hSw; go_simp; try with_reducible rfl)
    try simp only [Act.put, List.setIfInBounds_toArray, List.set_cons_zero, List.set_cons_succ]
    refine wpAnyH_take (i := 36) (oi := { dst := some 62, op := Op.pick (Operand.tmp 56) (Operand.tmp 61) (Operand.const (Value.bool false)), type := 4, pos := "more.go:38", after := #[{ on := 30, ground := Ground.data }, { on := 35, ground := Ground.data }], guard := none }) (v := ?tkv6037) rfl (by kernel_rfl) (by kernel_rfl) (by kernel_rfl) (fun _ _ _ h => h) (Or.inl ⟨by rfl, ?tky6037⟩) hH6006 ?tkr6037
    case tky6037 => (intro w' hSw; clear hSw; go_simp; try with_reducible rfl)
    try simp only [Act.put, List.setIfInBounds_toArray, List.set_cons_zero, List.set_cons_succ]
    refine wpAnyH_take (i := 37) (oi := { dst := some 63, op := Op.move (Operand.tmp 62), type := 4, pos := "more.go:38", after := #[{ on := 36, ground := Ground.data }, { on := 30, ground := Ground.chain }], guard := none }) (v := ?tkv6038) rfl (by kernel_rfl) (by kernel_rfl) (by kernel_rfl) (fun _ _ _ h => h) (Or.inl ⟨by rfl, ?tky6038⟩) hH6006 ?tkr6038
    case tky6038 => (intro w' hSw; clear hSw; go_simp; try with_reducible rfl)
    try simp only [Act.put, List.setIfInBounds_toArray, List.set_cons_zero, List.set_cons_succ]
    refine wpAnyH_ready (rs := [38]) (by kernel_rfl) (by simp) ?_
    refine AllReadyH.cons (o := { dst := some 64, op := Op.call { callee := Callee.value (Operand.func 9), args := #[], argTypes := #[] }, type := 4, pos := "more.go:38", after := #[{ on := 37, ground := Ground.chain }, { on := 37, ground := Ground.guard }], guard := some (37, true) }) rfl (fun K hK => ?_) AllReadyH.nil
    go_simp
    refine (awake21_any _ (HT.out.below (HE.out wn6006 (hH6006)).b HT.out.1)).mono ?_
    rintro e' wn6039 ⟨rfl, hb6039⟩
    go_simp
    have hS6039 : Below (wC.heap.size) wC wn6039 := (hH6006).trans (hb6039.mono (hH6006).size)
    refine hK.out _ _ hS6039 (fun hH6039 => ?_)
    have hH6039 : Below (wC.heap.size) wC wn6039 := hH6039
    clear hK K hS6039
    try simp only [Act.put, List.setIfInBounds_toArray, List.set_cons_zero, List.set_cons_succ]
    refine wpAnyH_take (i := 39) (oi := { dst := some 65, op := Op.pick (Operand.tmp 63) (Operand.tmp 64) (Operand.const (Value.bool false)), type := 4, pos := "more.go:38", after := #[{ on := 37, ground := Ground.data }, { on := 38, ground := Ground.data }], guard := none }) (v := ?tkv6040) rfl (by kernel_rfl) (by kernel_rfl) (by kernel_rfl) (fun _ _ _ h => h) (Or.inl ⟨by rfl, ?tky6040⟩) hH6039 ?tkr6040
    case tky6040 => (intro w' hSw; clear hSw; go_simp; try with_reducible rfl)
    try simp only [Act.put, List.setIfInBounds_toArray, List.set_cons_zero, List.set_cons_succ]
    refine wpAnyH_take (i := 40) (oi := { dst := some 2, op := Op.assign (Operand.tmp 65), type := 4, pos := "more.go:38", after := #[{ on := 39, ground := Ground.data }, { on := 38, ground := Ground.chain }, { on := 0, ground := Ground.phase }, { on := 1, ground := Ground.phase }, { on := 2, ground := Ground.phase }, { on := 3, ground := Ground.phase }, { on := 4, ground := Ground.phase }, { on := 5, ground := Ground.phase }, { on := 6, ground := Ground.phase }, { on := 7, ground := Ground.phase }, { on := 8, ground := Ground.phase }, { on := 9, ground := Ground.phase }, { on := 10, ground := Ground.phase }, { on := 11, ground := Ground.phase }, { on := 12, ground := Ground.phase }, { on := 13, ground := Ground.phase }, { on := 14, ground := Ground.phase }, { on := 15, ground := Ground.phase }, { on := 16, ground := Ground.phase }, { on := 17, ground := Ground.phase }, { on := 18, ground := Ground.phase }, { on := 19, ground := Ground.phase }, { on := 20, ground := Ground.phase }, { on := 21, ground := Ground.phase }, { on := 22, ground := Ground.phase }, { on := 23, ground := Ground.phase }, { on := 24, ground := Ground.phase }, { on := 25, ground := Ground.phase }, { on := 26, ground := Ground.phase }, { on := 27, ground := Ground.phase }, { on := 28, ground := Ground.phase }, { on := 29, ground := Ground.phase }, { on := 30, ground := Ground.phase }, { on := 31, ground := Ground.phase }, { on := 32, ground := Ground.phase }, { on := 33, ground := Ground.phase }, { on := 34, ground := Ground.phase }, { on := 35, ground := Ground.phase }, { on := 36, ground := Ground.phase }, { on := 37, ground := Ground.phase }, { on := 38, ground := Ground.phase }, { on := 39, ground := Ground.phase }], guard := none }) (v := ?tkv6041) rfl (by kernel_rfl) (by kernel_rfl) (by kernel_rfl) (fun _ _ _ h => h) (Or.inl ⟨by rfl, ?tky6041⟩) hH6039 ?tkr6041
    case tky6041 => (intro w' hSw; clear hSw; go_simp; try with_reducible rfl)
    try simp only [Act.put, List.setIfInBounds_toArray, List.set_cons_zero, List.set_cons_succ]
    refine wpAnyH_done (by kernel_rfl) ?_ _
    refine NoPanic.normal ?_
    have HEND := Lib.hid ((HE.out _ (hH6039)).b)
    go_wp2_with fail
    go_ret
    exact ⟨rfl, HEND.out⟩
end Go.Proofs.YtanompoceadjoaaDoor
