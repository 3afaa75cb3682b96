/- The reference's Confirm: by contract, states as data. -/
import Derived.Test.YtoclckfpbmglfaaDoorRBootHQ
namespace Go.Proofs.YtoclckfpbmglfaaDoor
open Go.RowKit
structure RKS (w : World) (g4 : Nat) (cs c5 : Array Value) (W : World) : Prop where
  b : Below w.heap.size w W
  x5 : W.heap[w.heap.size]? = some (.cells c5 30 (0, 0))
  xw : W.heap[g4]? = some (.cells cs 30 (0, 0))
  z : ∃ z : Array Value, z.size = 17 ∧ W.heap[w.heap.size + 1]? = some (.cells z 30 (0, 0))
theorem RKS.below {w : World} {g4 : Nat} {cs c5 : Array Value} {W W' : World} (h : RKS w g4 cs c5 W) (hb : Below W.heap.size W W') : RKS w g4 cs c5 W' := by
  obtain ⟨b, x5, xs, z, hz, xz⟩ := h
  exact ⟨b.trans (hb.mono b.size), (hb.block _ (Array.getElem?_eq_some_iff.1 x5).1).trans x5, (hb.block _ (Array.getElem?_eq_some_iff.1 xs).1).trans xs, z, hz, (hb.block _ (Array.getElem?_eq_some_iff.1 xz).1).trans xz⟩
theorem RKS.store {w : World} {g4 : Nat} {cs c5 : Array Value} {W : World} (h : RKS w g4 cs c5 W) (hg : w.heap.size + 1 < g4) (ds : Array Value) (hd : ds.size = 17) : RKS w g4 cs c5 (W.setRow (w.heap.size + 1) ds) := by
  obtain ⟨b, x5, xs, z, hz, xz⟩ := h
  exact ⟨below_setRow2 b (Nat.le_succ _) _, (setRow_other _ _ _ _ (by omega)).trans x5, (setRow_other _ _ _ _ (by omega)).trans xs, ds, hd, setRow_heap _ _ _ _ _ _ xz⟩
theorem confirm_eqb (L : LSt) : L.confirm.eqb L = decide (L.trial = 0 ∧ L.confirm.flo = L.flo) := by
  unfold LSt.eqb
  rw [Bool.eq_iff_iff, decide_eq_true_eq, decide_eq_true_eq]
  exact ⟨fun h => ⟨h.2.1.symm, h.2.2.1⟩, fun h => ⟨rfl, h.1.symm, h.2, rfl, ⟨rfl, rfl, rfl⟩, ⟨rfl, rfl, rfl⟩, rfl, ⟨rfl, rfl, rfl, rfl, rfl, rfl⟩⟩⟩
set_option maxRecDepth 100000 in
set_option maxHeartbeats 3200000 in
theorem rconfirm_yes {w : World} {P : Nat → Prop} {cs : Array Value} {L : LSt} (h : IsSt w P cs L) (hm : L.may = true) : Calls Tryd.prog 16 #[.agg cs] w (RetR L.confirm (.bool (!L.confirm.eqb L)) w) := by
  obtain ⟨hact, _, _⟩ := stMay_act hm
  have e0 := (((Env.start w).addSt h).alloc cs 30).alloc #[.int .i64 0, .int .i64 0, .int .u32 0, .int .u32 0, .int .u32 0, .int .i64 0, .slice none 0 0, .int .u32 0, .int .i64 0, .slice none 0 0, .bool false, .int .u32 0, .int .u32 0, .int .i64 0, .int .i64 0, .int .i64 0, .slice none 0 0] 30
  rw [show (w.alloc (.cells cs 30)).heap.size = w.heap.size + 1 by simp] at e0
  have E0 := Lib.hid e0
  have HM := Lib.hid hm
  have IN := Lib.hid h.inf
  have S0 := Lib.hid h
  have ON := Lib.hid h.one
  have SZ := Lib.hid h.size
  clear e0 h hm
  go_enter Tryd.func16, Tryd.ntmps16
  go_wp2_with ((with_reducible show wpList _ _ _ _ _ _); refine wpList_load_row (o := ⟨some 5, _, _, _, _, _⟩) rfl _ (.tmp 1) rfl (w.heap.size) rfl _ _ _ _ (E0.out.bx _ _ _ (.tail _ (.head _))) Tryd.underlying30 rfl IN.out ?_)
  generalize (w.alloc (.cells cs 30)).alloc (.cells #[.int .i64 0, .int .i64 0, .int .u32 0, .int .u32 0, .int .u32 0, .int .i64 0, .slice none 0 0, .int .u32 0, .int .i64 0, .slice none 0 0, .bool false, .int .u32 0, .int .u32 0, .int .i64 0, .int .i64 0, .int .i64 0, .slice none 0 0] 30) = w0 at *
  refine (rmayS (E0.out.st _ _ (.head _))).mono ?_
  rintro e w1 ⟨rfl, hb1⟩
  rw [HM.out]
  have E1 := Lib.hid (E0.out.below hb1)
  clear hb1 E0
  have X2 := Lib.hid (E1.out.bx _ _ _ (.tail _ (.head _)))
  have Y2 := Lib.hid (E1.out.bx _ _ _ (.head _))
  have B2 := Lib.hid E1.out.b
  clear E1
  have lw : w.heap.size + 1 < w1.heap.size := (Array.getElem?_eq_some_iff.1 Y2.out).1
  have x4 := heap_alloc_new w1 (.cells cs 30)
  have xs : (w1.alloc (.cells cs 30)).heap[w.heap.size]? = some (.cells cs 30 (0, 0)) := (heap_alloc_old w1 _ (by omega)).trans X2.out
  have ys : (w1.alloc (.cells cs 30)).heap[w.heap.size + 1]? = some (.cells #[.int .i64 0, .int .i64 0, .int .u32 0, .int .u32 0, .int .u32 0, .int .i64 0, .slice none 0 0, .int .u32 0, .int .i64 0, .slice none 0 0, .bool false, .int .u32 0, .int .u32 0, .int .i64 0, .int .i64 0, .int .i64 0, .slice none 0 0] 30 (0, 0)) := (heap_alloc_old w1 _ (by omega)).trans Y2.out
  have b3 : Below w.heap.size w (w1.alloc (.cells cs 30)) := B2.out.alloc B2.out.size _
  have XW := Lib.hid x4
  have XS := Lib.hid xs
  have YS := Lib.hid ys
  have B3 := Lib.hid b3
  have LG : Hid (w.heap.size + 1 < w1.heap.size) := Lib.hid lw
  have k1 := (cell_of_row (w1.alloc (.cells cs 30)) _ 1 _ _ _ xs).trans S0.out.c1
  have f1 := frozen_of_row (w1.alloc (.cells cs 30)) w.heap.size 1 _ _ xs
  clear x4 xs ys b3
  go_upto_region 5 with (first
    | ((with_reducible show wpList _ _ _ _ _ _); refine wpList_load_row (o := ⟨some 9, _, _, _, _, _⟩) rfl _ (.tmp 1) rfl (w.heap.size) rfl _ _ _ _ (X2.out) Tryd.underlying30 rfl IN.out ?_)
    | ((with_reducible show wpList _ _ _ _ _ _); refine wpList_store_new rfl rfl _ (.tmp 4) (.tmp 9) rfl _ _ cs _ rfl rfl IN.out (by rw [SZ.out]; rfl) ON.out ?_))
  clear k1 f1 lw X2 Y2 B2
  obtain ⟨g4, hg4⟩ : ∃ g, w1.heap.size = g := ⟨_, rfl⟩
  rw [hg4] at LG XW ⊢
  clear hg4
  generalize w1.alloc (.cells cs 30) = w3 at *
  have X4 := Lib.hid (heap_setCell_same w3 w.heap.size 1 _ _ (.int .i64 0) XS.out)
  have O4 : Hid (∀ b, b ≠ w.heap.size → (w3.setCell ⟨w.heap.size, 1, none⟩ (.int .i64 0)).heap[b]? = w3.heap[b]?) := Lib.hid (fun b h => heap_setCell_other _ _ _ _ h)
  have B4 : Hid (Below w.heap.size w (w3.setCell ⟨w.heap.size, 1, none⟩ (.int .i64 0))) := Lib.hid (B3.out.setCell (Nat.le_refl _) _)
  have S4 := Lib.hid (S0.out.set1 0)
  generalize w3.setCell ⟨w.heap.size, 1, none⟩ (.int .i64 0) = w4 at *
  have WX := Lib.hid ((O4.out g4 (by have := LG.out; omega)).trans XW.out)
  have YX := Lib.hid ((O4.out (w.heap.size + 1) (by omega)).trans YS.out)
  clear O4 B3 XW XS YS
  have VV := Lib.hid (confirm_eqb L)
  rcases hact with ha | ha
  · have k0 := (cell_of_row w4 w.heap.size 0 _ _ _ X4.out).trans S4.out.c0
    have k2 := (cell_of_row w4 w.heap.size 2 _ _ _ X4.out).trans S4.out.c2
    have kv := (cell_of_row w4 w.heap.size 4 _ _ _ X4.out).trans S4.out.c4
    have f2 := frozen_of_row w4 w.heap.size 2 _ _ X4.out
    change w4.cell? ⟨w.heap.size, 0, none⟩ = some (.int .i64 L.act) at k0
    change w4.cell? ⟨w.heap.size, 2, none⟩ = some (.int .u32 (L.flo : Int)) at k2
    change w4.cell? ⟨w.heap.size, 4, none⟩ = some (.int .u32 (L.v0 : Int)) at kv
    rw [ha] at k0
    go_cut [] (fun wx => Hid (wx = (w4.setCell ⟨w.heap.size, 2, none⟩ (.int .u32 ((max L.flo L.v0 : Nat) : Int))).drew))
    case first =>
      go_region
      go_wp2_with fail
      · go_meet
        exact Lib.hid (by rw [show max L.flo L.v0 = L.v0 by omega])
      · go_meet
        exact Lib.hid (by rw [show max L.flo L.v0 = L.flo by omega])
    case rest =>
      have fin : LSt.confirm L = { L with trial := 0, flo := max L.flo L.v0 } := by unfold LSt.confirm; rw [ha]; rfl
      have FL : Hid (L.confirm.flo = max L.flo L.v0) := Lib.hid (by rw [fin])
      rw [FL.out] at VV
      obtain ⟨G, hG⟩ : ∃ G, max L.flo L.v0 = G := ⟨_, rfl⟩
      rw [hG] at hcut fin VV
      have S5 := Lib.hid (S4.out.set2 G)
      have x5 : wc.heap[w.heap.size]? = some (.cells ((cs.setIfInBounds 1 (.int .i64 0)).setIfInBounds 2 (.int .u32 (G : Int))) 30 (0, 0)) := by rw [hcut.out, drew_heap]; exact heap_setCell_same w4 w.heap.size 2 _ _ _ X4.out
      have kc : RKS w g4 cs ((cs.setIfInBounds 1 (.int .i64 0)).setIfInBounds 2 (.int .u32 (G : Int))) wc := by
        refine ⟨by rw [hcut.out]; exact (B4.out.setCell (Nat.le_refl _) _).drew, x5, ?_, #[.int .i64 0, .int .i64 0, .int .u32 0, .int .u32 0, .int .u32 0, .int .i64 0, .slice none 0 0, .int .u32 0, .int .i64 0, .slice none 0 0, .bool false, .int .u32 0, .int .u32 0, .int .i64 0, .int .i64 0, .int .i64 0, .slice none 0 0], rfl, ?_⟩
        · rw [hcut.out, drew_heap]; exact (heap_setCell_other w4 _ _ _ (by show g4 ≠ w.heap.size; have := LG.out; omega)).trans WX.out
        · rw [hcut.out, drew_heap]; exact (heap_setCell_other w4 _ _ _ (by show w.heap.size + 1 ≠ w.heap.size; omega)).trans YX.out
      rw [← fin] at S5
      obtain ⟨c5, hc5⟩ : ∃ c5, (cs.setIfInBounds 1 (.int .i64 0)).setIfInBounds 2 (.int .u32 (G : Int)) = c5 := ⟨_, rfl⟩
      rw [hc5] at kc S5 x5
      have hf : L.confirm.flo = G := by rw [fin]
      have ht : L.confirm.trial = 0 := by rw [fin]
      have I5 := Lib.hid S5.out.inf
      have O5 := Lib.hid S5.out.one
      have Z5 : Hid (17 = c5.size) := Lib.hid S5.out.size.symm
      obtain ⟨wC, rfl⟩ : ∃ x : World, x = wc := ⟨_, rfl⟩
      have KC := Lib.hid kc
      have C51 : c5[1]? = some (.int .i64 0) := by rw [S5.out.c1, ht]
      have C52 : c5[2]? = some (.int .u32 (G : Int)) := by rw [S5.out.c2, hf]
      have F51 : Hid (∀ W, RKS w g4 cs c5 W → W.cell? ⟨w.heap.size, 1, none⟩ = some (.int .i64 0)) := Lib.hid (fun W hW => (cell_of_row _ _ 1 _ _ _ hW.x5).trans C51)
      have F52 : Hid (∀ W, RKS w g4 cs c5 W → W.cell? ⟨w.heap.size, 2, none⟩ = some (.int .u32 (G : Int))) := Lib.hid (fun W hW => (cell_of_row _ _ 2 _ _ _ hW.x5).trans C52)
      have G41 : Hid (∀ W, RKS w g4 cs c5 W → W.cell? ⟨g4, 1, none⟩ = some (.int .i64 L.trial)) := Lib.hid (fun W hW => (cell_of_row _ _ 1 _ _ _ hW.xw).trans S0.out.c1)
      have G42 : Hid (∀ W, RKS w g4 cs c5 W → W.cell? ⟨g4, 2, none⟩ = some (.int .u32 (L.flo : Int))) := Lib.hid (fun W hW => (cell_of_row _ _ 2 _ _ _ hW.xw).trans S0.out.c2)
      clear x5 kc hc5 fin hcut S4 X4 WX YX B4 k0 k2 kv f2 hf ht C51 C52 FL hG S0
      generalize L.confirm = K at *
      obtain ⟨tr, htr⟩ : ∃ t, L.trial = t := ⟨_, rfl⟩
      obtain ⟨fl, hfl⟩ : ∃ t, L.flo = t := ⟨_, rfl⟩
      rw [htr] at G41 VV
      rw [hfl] at G42 VV
      clear htr hfl
      go_upto_region 6 with fail
      by_cases h0 : tr = 0
      case neg =>
        have q0 : ((0 : Int) != tr) = true := by simpa using fun h => h0 h.symm
        have VV2 : Hid ((!K.eqb L) = true) := Lib.hid (by rw [VV.out]; simp [h0])
        clear h0 VV
        have VV := VV2
        refine wp_region_noPanic ?_
        refine wp_region_held_drew (S := (fun W => RKS w g4 cs c5 W)) (by kernel_rfl) (KC.out.below (Below.refl _ _).drew) (fun hH0 => ?_)
        have hH0 : RKS w g4 cs c5 wC.drew := hH0
        generalize wC.drew = wd4000 at *
        refine wpAnyH_take (i := 0) (oi := { dst := some 21, op := Op.load 30 (Operand.tmp 1), type := 30, pos := "ref.go:43", after := #[], guard := none }) (v := .agg c5) rfl (by kernel_rfl) (by kernel_rfl) (by kernel_rfl) (fun _ _ _ h => h) (yields_row (by rfl) _ _ rfl (w.heap.size) rfl _ _ _ _ (fun W hW => hW.x5) Tryd.underlying30 rfl I5.out) hH0 ?tkr4001
        try simp only [Act.put, List.setIfInBounds_toArray, List.set_cons_zero, List.set_cons_succ]
        refine wpAnyH_take (i := 1) (oi := { dst := some 22, op := Op.fieldAddr 30 (Operand.tmp 1) 1, type := 0, pos := "ref.go:43", after := #[], guard := none }) (v := ?tkv4002) rfl (by kernel_rfl) (by kernel_rfl) (by kernel_rfl) (fun _ _ _ h => h) (Or.inl ⟨by rfl, ?tky4002⟩) hH0 ?tkr4002
        case tky4002 => (intro w' hSw; clear hSw; go_simp; try with_reducible rfl)
        try simp only [Act.put, List.setIfInBounds_toArray, List.set_cons_zero, List.set_cons_succ]
        refine wpAnyH_take (i := 2) (oi := { dst := some 23, op := Op.load 3 (Operand.tmp 22), type := 3, pos := "ref.go:43", after := #[{ on := 1, ground := Ground.data }], guard := none }) (v := ?tkv4003) rfl (by kernel_rfl) (by kernel_rfl) (by kernel_rfl) (fun _ _ _ h => h) (Or.inl ⟨by rfl, ?tky4003⟩) hH0 ?tkr4003
        case tky4003 => (intro w' hSw; have z0 := F51.out _ hSw; have z1 := F52.out _ hSw; have z2 := G41.out _ hSw; have z3 := G42.out _ hSw; clear hSw; go_simp; try with_reducible rfl)
        try simp only [Act.put, List.setIfInBounds_toArray, List.set_cons_zero, List.set_cons_succ]
        refine wpAnyH_take (i := 3) (oi := { dst := some 24, op := Op.fieldAddr 30 (Operand.tmp 4) 1, type := 0, pos := "ref.go:43", after := #[], guard := none }) (v := ?tkv4004) rfl (by kernel_rfl) (by kernel_rfl) (by kernel_rfl) (fun _ _ _ h => h) (Or.inl ⟨by rfl, ?tky4004⟩) hH0 ?tkr4004
        case tky4004 => (intro w' hSw; clear hSw; go_simp; try with_reducible rfl)
        try simp only [Act.put, List.setIfInBounds_toArray, List.set_cons_zero, List.set_cons_succ]
        refine wpAnyH_take (i := 4) (oi := { dst := some 25, op := Op.load 3 (Operand.tmp 24), type := 3, pos := "ref.go:43", after := #[{ on := 3, ground := Ground.data }], guard := none }) (v := ?tkv4005) rfl (by kernel_rfl) (by kernel_rfl) (by kernel_rfl) (fun _ _ _ h => h) (Or.inl ⟨by rfl, ?tky4005⟩) hH0 ?tkr4005
        case tky4005 => (intro w' hSw; have z0 := F51.out _ hSw; have z1 := F52.out _ hSw; have z2 := G41.out _ hSw; have z3 := G42.out _ hSw; clear hSw; go_simp; try with_reducible rfl)
        try simp only [Act.put, List.setIfInBounds_toArray, List.set_cons_zero, List.set_cons_succ]
        refine wpAnyH_take (i := 5) (oi := { dst := some 26, op := Op.binOp BinOp.neq 3 (Operand.tmp 23) (Operand.tmp 25) 3, type := 4, pos := "ref.go:43", after := #[{ on := 2, ground := Ground.data }, { on := 4, ground := Ground.data }], guard := none }) (v := ?tkv4006) rfl (by kernel_rfl) (by kernel_rfl) (by kernel_rfl) (fun _ _ _ h => h) (Or.inl ⟨by rfl, ?tky4006⟩) hH0 ?tkr4006
        case tky4006 => (intro w' hSw; clear hSw; go_simp; try with_reducible rfl)
        try simp only [Act.put, List.setIfInBounds_toArray, List.set_cons_zero, List.set_cons_succ]
        refine wpAnyH_take (i := 6) (oi := { dst := some 27, op := Op.move (Operand.tmp 26), type := 4, pos := "ref.go:43", after := #[{ on := 5, ground := Ground.data }], guard := none }) (v := ?tkv4007) rfl (by kernel_rfl) (by kernel_rfl) (by kernel_rfl) (fun _ _ _ h => h) (Or.inl ⟨by rfl, ?tky4007⟩) hH0 ?tkr4007
        case tky4007 => (intro w' hSw; clear hSw; go_simp; try with_reducible rfl)
        try simp only [Act.put, List.setIfInBounds_toArray, List.set_cons_zero, List.set_cons_succ]
        refine wpAnyH_take (i := 7) (oi := { dst := some 28, op := Op.fieldAddr 30 (Operand.tmp 1) 2, type := 0, pos := "ref.go:43", after := #[{ on := 6, ground := Ground.guard }, { on := 13, ground := Ground.gcOnly Departure.lateStores }], guard := some (6, false) }) (v := undef) rfl (by kernel_rfl) (by kernel_rfl) (by kernel_rfl) (fun _ _ _ h => h) (Or.inr ⟨by rfl, rfl⟩) hH0 ?tkr4008
        try simp only [Act.put, List.setIfInBounds_toArray, List.set_cons_zero, List.set_cons_succ]
        refine wpAnyH_take (i := 8) (oi := { dst := some 29, op := Op.load 22 (Operand.tmp 28), type := 22, pos := "ref.go:43", after := #[{ on := 7, ground := Ground.data }, { on := 6, ground := Ground.guard }, { on := 13, ground := Ground.gcOnly Departure.lateStores }], guard := some (6, false) }) (v := undef) rfl (by kernel_rfl) (by kernel_rfl) (by kernel_rfl) (fun _ _ _ h => h) (Or.inr ⟨by rfl, rfl⟩) hH0 ?tkr4009
        try simp only [Act.put, List.setIfInBounds_toArray, List.set_cons_zero, List.set_cons_succ]
        refine wpAnyH_take (i := 9) (oi := { dst := some 30, op := Op.fieldAddr 30 (Operand.tmp 4) 2, type := 0, pos := "ref.go:43", after := #[{ on := 6, ground := Ground.guard }, { on := 13, ground := Ground.gcOnly Departure.lateStores }], guard := some (6, false) }) (v := undef) rfl (by kernel_rfl) (by kernel_rfl) (by kernel_rfl) (fun _ _ _ h => h) (Or.inr ⟨by rfl, rfl⟩) hH0 ?tkr4010
        try simp only [Act.put, List.setIfInBounds_toArray, List.set_cons_zero, List.set_cons_succ]
        refine wpAnyH_take (i := 10) (oi := { dst := some 31, op := Op.load 22 (Operand.tmp 30), type := 22, pos := "ref.go:43", after := #[{ on := 9, ground := Ground.data }, { on := 6, ground := Ground.guard }, { on := 13, ground := Ground.gcOnly Departure.lateStores }], guard := some (6, false) }) (v := undef) rfl (by kernel_rfl) (by kernel_rfl) (by kernel_rfl) (fun _ _ _ h => h) (Or.inr ⟨by rfl, rfl⟩) hH0 ?tkr4011
        try simp only [Act.put, List.setIfInBounds_toArray, List.set_cons_zero, List.set_cons_succ]
        refine wpAnyH_take (i := 11) (oi := { dst := some 32, op := Op.binOp BinOp.neq 22 (Operand.tmp 29) (Operand.tmp 31) 22, type := 4, pos := "ref.go:43", after := #[{ on := 8, ground := Ground.data }, { on := 10, ground := Ground.data }, { on := 6, ground := Ground.guard }, { on := 13, ground := Ground.gcOnly Departure.lateStores }], guard := some (6, false) }) (v := undef) rfl (by kernel_rfl) (by kernel_rfl) (by kernel_rfl) (fun _ _ _ h => h) (Or.inr ⟨by rfl, rfl⟩) hH0 ?tkr4012
        try simp only [Act.put, List.setIfInBounds_toArray, List.set_cons_zero, List.set_cons_succ]
        refine wpAnyH_take (i := 12) (oi := { dst := some 33, op := Op.pick (Operand.tmp 27) (Operand.const (Value.bool true)) (Operand.tmp 32), type := 4, pos := "ref.go:43", after := #[{ on := 6, ground := Ground.data }, { on := 11, ground := Ground.data }, { on := 13, ground := Ground.gcOnly Departure.lateStores }], guard := none }) (v := ?tkv4013) rfl (by kernel_rfl) (by kernel_rfl) (by kernel_rfl) (fun _ _ _ h => h) (Or.inl ⟨by rfl, ?tky4013⟩) hH0 ?tkr4013
        case tky4013 => (intro w' hSw; clear hSw; go_simp; try with_reducible rfl)
        try simp only [Act.put, List.setIfInBounds_toArray, List.set_cons_zero, List.set_cons_succ]
        refine wpAnyH_ready (rs := [13]) (by kernel_rfl) (by simp) ?_
        refine AllReadyH.cons (o := { dst := none, op := Op.store 30 (Operand.tmp 2) (Operand.tmp 21), type := 0, pos := "ref.go:43", after := #[{ on := 0, ground := Ground.data }, { on := 6, ground := Ground.chain }, { on := 0, ground := Ground.phase }, { on := 1, ground := Ground.textOnly Departure.lateStores }, { on := 2, ground := Ground.textOnly Departure.lateStores }, { on := 3, ground := Ground.textOnly Departure.lateStores }, { on := 4, ground := Ground.textOnly Departure.lateStores }, { on := 5, ground := Ground.textOnly Departure.lateStores }, { on := 6, ground := Ground.textOnly Departure.lateStores }, { on := 7, ground := Ground.textOnly Departure.lateStores }, { on := 8, ground := Ground.textOnly Departure.lateStores }, { on := 9, ground := Ground.textOnly Departure.lateStores }, { on := 10, ground := Ground.textOnly Departure.lateStores }, { on := 11, ground := Ground.textOnly Departure.lateStores }, { on := 12, ground := Ground.textOnly Departure.lateStores }], guard := none }) rfl (fun K hK => ?_) AllReadyH.nil
        rw [if_pos (by rfl)]
        obtain ⟨z4014, zz4014, zx4014⟩ := (hH0).z
        refine wp_store_row _ _ _ rfl (w.heap.size + 1) c5 rfl rfl _ _ zx4014 I5.out (zz4014.trans Z5.out) O5.out ?_
        have row4014 := Lib.hid (setRow_heap _ _ _ c5 _ _ zx4014)
        have hS4014 : RKS w g4 cs c5 (wd4000.setRow (w.heap.size + 1) c5) := ((hH0).store LG.out c5 Z5.out.symm)
        refine hK.out _ _ hS4014 (fun hH4014 => ?_)
        have hH4014 : RKS w g4 cs c5 (wd4000.setRow (w.heap.size + 1) c5) := hH4014
        clear hK K hS4014
        refine wpAnyH_take (i := 14) (oi := { dst := some 3, op := Op.assign (Operand.tmp 33), type := 4, pos := "ref.go:43", after := #[{ on := 12, ground := Ground.data }, { on := 13, ground := Ground.chain }, { on := 0, ground := Ground.phase }, { on := 1, ground := Ground.phase }, { on := 2, ground := Ground.phase }, { on := 3, ground := Ground.phase }, { on := 4, ground := Ground.phase }, { on := 5, ground := Ground.phase }, { on := 6, ground := Ground.phase }, { on := 7, ground := Ground.phase }, { on := 8, ground := Ground.phase }, { on := 9, ground := Ground.phase }, { on := 10, ground := Ground.phase }, { on := 11, ground := Ground.phase }, { on := 12, ground := Ground.phase }, { on := 13, ground := Ground.phase }], guard := none }) (v := ?tkv4015) rfl (by kernel_rfl) (by kernel_rfl) (by kernel_rfl) (fun _ _ _ h => h) (Or.inl ⟨by rfl, ?tky4015⟩) hH4014 ?tkr4015
        case tky4015 => (intro w' hSw; clear hSw; go_simp; try with_reducible rfl)
        try simp only [Act.put, List.setIfInBounds_toArray, List.set_cons_zero, List.set_cons_succ]
        refine wpAnyH_done (by kernel_rfl) ?_ _
        refine NoPanic.normal ?_
        have B9 := Lib.hid (hH4014).b
        go_wp2_with fail
        refine bodyPost_ret (results_cell_tmp_row rfl _ _ (w.heap.size + 1) _ _ (0, 0) _ rfl row4014.out Tryd.underlying30 rfl I5.out) rfl ?_
        exact ⟨c5, by rw [VV.out]; rfl, Lib.hid ((S5.out.below B9.out).imp fun _ _ _ => trivial), B9⟩
      subst h0
      by_cases h2 : G = fl
      case neg =>
        have q1 : ((G : Int) != (fl : Int)) = true := by simp; omega
        have VV2 : Hid ((!K.eqb L) = true) := Lib.hid (by rw [VV.out]; simp [h2])
        clear h2 VV
        have VV := VV2
        refine wp_region_noPanic ?_
        refine wp_region_held_drew (S := (fun W => RKS w g4 cs c5 W)) (by kernel_rfl) (KC.out.below (Below.refl _ _).drew) (fun hH0 => ?_)
        have hH0 : RKS w g4 cs c5 wC.drew := hH0
        generalize wC.drew = wd4100 at *
        refine wpAnyH_take (i := 0) (oi := { dst := some 21, op := Op.load 30 (Operand.tmp 1), type := 30, pos := "ref.go:43", after := #[], guard := none }) (v := .agg c5) rfl (by kernel_rfl) (by kernel_rfl) (by kernel_rfl) (fun _ _ _ h => h) (yields_row (by rfl) _ _ rfl (w.heap.size) rfl _ _ _ _ (fun W hW => hW.x5) Tryd.underlying30 rfl I5.out) hH0 ?tkr4101
        try simp only [Act.put, List.setIfInBounds_toArray, List.set_cons_zero, List.set_cons_succ]
        refine wpAnyH_take (i := 1) (oi := { dst := some 22, op := Op.fieldAddr 30 (Operand.tmp 1) 1, type := 0, pos := "ref.go:43", after := #[], guard := none }) (v := ?tkv4102) rfl (by kernel_rfl) (by kernel_rfl) (by kernel_rfl) (fun _ _ _ h => h) (Or.inl ⟨by rfl, ?tky4102⟩) hH0 ?tkr4102
        case tky4102 => (intro w' hSw; clear hSw; go_simp; try with_reducible rfl)
        try simp only [Act.put, List.setIfInBounds_toArray, List.set_cons_zero, List.set_cons_succ]
        refine wpAnyH_take (i := 2) (oi := { dst := some 23, op := Op.load 3 (Operand.tmp 22), type := 3, pos := "ref.go:43", after := #[{ on := 1, ground := Ground.data }], guard := none }) (v := ?tkv4103) rfl (by kernel_rfl) (by kernel_rfl) (by kernel_rfl) (fun _ _ _ h => h) (Or.inl ⟨by rfl, ?tky4103⟩) hH0 ?tkr4103
        case tky4103 => (intro w' hSw; have z0 := F51.out _ hSw; have z1 := F52.out _ hSw; have z2 := G41.out _ hSw; have z3 := G42.out _ hSw; clear hSw; go_simp; try with_reducible rfl)
        try simp only [Act.put, List.setIfInBounds_toArray, List.set_cons_zero, List.set_cons_succ]
        refine wpAnyH_take (i := 3) (oi := { dst := some 24, op := Op.fieldAddr 30 (Operand.tmp 4) 1, type := 0, pos := "ref.go:43", after := #[], guard := none }) (v := ?tkv4104) rfl (by kernel_rfl) (by kernel_rfl) (by kernel_rfl) (fun _ _ _ h => h) (Or.inl ⟨by rfl, ?tky4104⟩) hH0 ?tkr4104
        case tky4104 => (intro w' hSw; clear hSw; go_simp; try with_reducible rfl)
        try simp only [Act.put, List.setIfInBounds_toArray, List.set_cons_zero, List.set_cons_succ]
        refine wpAnyH_take (i := 4) (oi := { dst := some 25, op := Op.load 3 (Operand.tmp 24), type := 3, pos := "ref.go:43", after := #[{ on := 3, ground := Ground.data }], guard := none }) (v := ?tkv4105) rfl (by kernel_rfl) (by kernel_rfl) (by kernel_rfl) (fun _ _ _ h => h) (Or.inl ⟨by rfl, ?tky4105⟩) hH0 ?tkr4105
        case tky4105 => (intro w' hSw; have z0 := F51.out _ hSw; have z1 := F52.out _ hSw; have z2 := G41.out _ hSw; have z3 := G42.out _ hSw; clear hSw; go_simp; try with_reducible rfl)
        try simp only [Act.put, List.setIfInBounds_toArray, List.set_cons_zero, List.set_cons_succ]
        refine wpAnyH_take (i := 5) (oi := { dst := some 26, op := Op.binOp BinOp.neq 3 (Operand.tmp 23) (Operand.tmp 25) 3, type := 4, pos := "ref.go:43", after := #[{ on := 2, ground := Ground.data }, { on := 4, ground := Ground.data }], guard := none }) (v := ?tkv4106) rfl (by kernel_rfl) (by kernel_rfl) (by kernel_rfl) (fun _ _ _ h => h) (Or.inl ⟨by rfl, ?tky4106⟩) hH0 ?tkr4106
        case tky4106 => (intro w' hSw; clear hSw; go_simp; try with_reducible rfl)
        try simp only [Act.put, List.setIfInBounds_toArray, List.set_cons_zero, List.set_cons_succ]
        refine wpAnyH_take (i := 6) (oi := { dst := some 27, op := Op.move (Operand.tmp 26), type := 4, pos := "ref.go:43", after := #[{ on := 5, ground := Ground.data }], guard := none }) (v := ?tkv4107) rfl (by kernel_rfl) (by kernel_rfl) (by kernel_rfl) (fun _ _ _ h => h) (Or.inl ⟨by rfl, ?tky4107⟩) hH0 ?tkr4107
        case tky4107 => (intro w' hSw; clear hSw; go_simp; try with_reducible rfl)
        try simp only [Act.put, List.setIfInBounds_toArray, List.set_cons_zero, List.set_cons_succ]
        refine wpAnyH_take (i := 7) (oi := { dst := some 28, op := Op.fieldAddr 30 (Operand.tmp 1) 2, type := 0, pos := "ref.go:43", after := #[{ on := 6, ground := Ground.guard }, { on := 13, ground := Ground.gcOnly Departure.lateStores }], guard := some (6, false) }) (v := ?tkv4108) rfl (by kernel_rfl) (by kernel_rfl) (by kernel_rfl) (fun _ _ _ h => h) (Or.inl ⟨by rfl, ?tky4108⟩) hH0 ?tkr4108
        case tky4108 => (intro w' hSw; clear hSw; go_simp; try with_reducible rfl)
        try simp only [Act.put, List.setIfInBounds_toArray, List.set_cons_zero, List.set_cons_succ]
        refine wpAnyH_take (i := 8) (oi := { dst := some 29, op := Op.load 22 (Operand.tmp 28), type := 22, pos := "ref.go:43", after := #[{ on := 7, ground := Ground.data }, { on := 6, ground := Ground.guard }, { on := 13, ground := Ground.gcOnly Departure.lateStores }], guard := some (6, false) }) (v := ?tkv4109) rfl (by kernel_rfl) (by kernel_rfl) (by kernel_rfl) (fun _ _ _ h => h) (Or.inl ⟨by rfl, ?tky4109⟩) hH0 ?tkr4109
        case tky4109 => (intro w' hSw; have z0 := F51.out _ hSw; have z1 := F52.out _ hSw; have z2 := G41.out _ hSw; have z3 := G42.out _ hSw; clear hSw; go_simp; try with_reducible rfl)
        try simp only [Act.put, List.setIfInBounds_toArray, List.set_cons_zero, List.set_cons_succ]
        refine wpAnyH_take (i := 9) (oi := { dst := some 30, op := Op.fieldAddr 30 (Operand.tmp 4) 2, type := 0, pos := "ref.go:43", after := #[{ on := 6, ground := Ground.guard }, { on := 13, ground := Ground.gcOnly Departure.lateStores }], guard := some (6, false) }) (v := ?tkv4110) rfl (by kernel_rfl) (by kernel_rfl) (by kernel_rfl) (fun _ _ _ h => h) (Or.inl ⟨by rfl, ?tky4110⟩) hH0 ?tkr4110
        case tky4110 => (intro w' hSw; clear hSw; go_simp; try with_reducible rfl)
        try simp only [Act.put, List.setIfInBounds_toArray, List.set_cons_zero, List.set_cons_succ]
        refine wpAnyH_take (i := 10) (oi := { dst := some 31, op := Op.load 22 (Operand.tmp 30), type := 22, pos := "ref.go:43", after := #[{ on := 9, ground := Ground.data }, { on := 6, ground := Ground.guard }, { on := 13, ground := Ground.gcOnly Departure.lateStores }], guard := some (6, false) }) (v := ?tkv4111) rfl (by kernel_rfl) (by kernel_rfl) (by kernel_rfl) (fun _ _ _ h => h) (Or.inl ⟨by rfl, ?tky4111⟩) hH0 ?tkr4111
        case tky4111 => (intro w' hSw; have z0 := F51.out _ hSw; have z1 := F52.out _ hSw; have z2 := G41.out _ hSw; have z3 := G42.out _ hSw; clear hSw; go_simp; try with_reducible rfl)
        try simp only [Act.put, List.setIfInBounds_toArray, List.set_cons_zero, List.set_cons_succ]
        refine wpAnyH_take (i := 11) (oi := { dst := some 32, op := Op.binOp BinOp.neq 22 (Operand.tmp 29) (Operand.tmp 31) 22, type := 4, pos := "ref.go:43", after := #[{ on := 8, ground := Ground.data }, { on := 10, ground := Ground.data }, { on := 6, ground := Ground.guard }, { on := 13, ground := Ground.gcOnly Departure.lateStores }], guard := some (6, false) }) (v := ?tkv4112) rfl (by kernel_rfl) (by kernel_rfl) (by kernel_rfl) (fun _ _ _ h => h) (Or.inl ⟨by rfl, ?tky4112⟩) hH0 ?tkr4112
        case tky4112 => (intro w' hSw; clear hSw; go_simp; try with_reducible rfl)
        try simp only [Act.put, List.setIfInBounds_toArray, List.set_cons_zero, List.set_cons_succ]
        refine wpAnyH_take (i := 12) (oi := { dst := some 33, op := Op.pick (Operand.tmp 27) (Operand.const (Value.bool true)) (Operand.tmp 32), type := 4, pos := "ref.go:43", after := #[{ on := 6, ground := Ground.data }, { on := 11, ground := Ground.data }, { on := 13, ground := Ground.gcOnly Departure.lateStores }], guard := none }) (v := ?tkv4113) rfl (by kernel_rfl) (by kernel_rfl) (by kernel_rfl) (fun _ _ _ h => h) (Or.inl ⟨by rfl, ?tky4113⟩) hH0 ?tkr4113
        case tky4113 => (intro w' hSw; clear hSw; go_simp; try with_reducible rfl)
        try simp only [Act.put, List.setIfInBounds_toArray, List.set_cons_zero, List.set_cons_succ]
        refine wpAnyH_ready (rs := [13]) (by kernel_rfl) (by simp) ?_
        refine AllReadyH.cons (o := { dst := none, op := Op.store 30 (Operand.tmp 2) (Operand.tmp 21), type := 0, pos := "ref.go:43", after := #[{ on := 0, ground := Ground.data }, { on := 6, ground := Ground.chain }, { on := 0, ground := Ground.phase }, { on := 1, ground := Ground.textOnly Departure.lateStores }, { on := 2, ground := Ground.textOnly Departure.lateStores }, { on := 3, ground := Ground.textOnly Departure.lateStores }, { on := 4, ground := Ground.textOnly Departure.lateStores }, { on := 5, ground := Ground.textOnly Departure.lateStores }, { on := 6, ground := Ground.textOnly Departure.lateStores }, { on := 7, ground := Ground.textOnly Departure.lateStores }, { on := 8, ground := Ground.textOnly Departure.lateStores }, { on := 9, ground := Ground.textOnly Departure.lateStores }, { on := 10, ground := Ground.textOnly Departure.lateStores }, { on := 11, ground := Ground.textOnly Departure.lateStores }, { on := 12, ground := Ground.textOnly Departure.lateStores }], guard := none }) rfl (fun K hK => ?_) AllReadyH.nil
        rw [if_pos (by rfl)]
        obtain ⟨z4114, zz4114, zx4114⟩ := (hH0).z
        refine wp_store_row _ _ _ rfl (w.heap.size + 1) c5 rfl rfl _ _ zx4114 I5.out (zz4114.trans Z5.out) O5.out ?_
        have row4114 := Lib.hid (setRow_heap _ _ _ c5 _ _ zx4114)
        have hS4114 : RKS w g4 cs c5 (wd4100.setRow (w.heap.size + 1) c5) := ((hH0).store LG.out c5 Z5.out.symm)
        refine hK.out _ _ hS4114 (fun hH4114 => ?_)
        have hH4114 : RKS w g4 cs c5 (wd4100.setRow (w.heap.size + 1) c5) := hH4114
        clear hK K hS4114
        refine wpAnyH_take (i := 14) (oi := { dst := some 3, op := Op.assign (Operand.tmp 33), type := 4, pos := "ref.go:43", after := #[{ on := 12, ground := Ground.data }, { on := 13, ground := Ground.chain }, { on := 0, ground := Ground.phase }, { on := 1, ground := Ground.phase }, { on := 2, ground := Ground.phase }, { on := 3, ground := Ground.phase }, { on := 4, ground := Ground.phase }, { on := 5, ground := Ground.phase }, { on := 6, ground := Ground.phase }, { on := 7, ground := Ground.phase }, { on := 8, ground := Ground.phase }, { on := 9, ground := Ground.phase }, { on := 10, ground := Ground.phase }, { on := 11, ground := Ground.phase }, { on := 12, ground := Ground.phase }, { on := 13, ground := Ground.phase }], guard := none }) (v := ?tkv4115) rfl (by kernel_rfl) (by kernel_rfl) (by kernel_rfl) (fun _ _ _ h => h) (Or.inl ⟨by rfl, ?tky4115⟩) hH4114 ?tkr4115
        case tky4115 => (intro w' hSw; clear hSw; go_simp; try with_reducible rfl)
        try simp only [Act.put, List.setIfInBounds_toArray, List.set_cons_zero, List.set_cons_succ]
        refine wpAnyH_done (by kernel_rfl) ?_ _
        refine NoPanic.normal ?_
        have B9 := Lib.hid (hH4114).b
        go_wp2_with fail
        refine bodyPost_ret (results_cell_tmp_row rfl _ _ (w.heap.size + 1) _ _ (0, 0) _ rfl row4114.out Tryd.underlying30 rfl I5.out) rfl ?_
        exact ⟨c5, by rw [VV.out]; rfl, Lib.hid ((S5.out.below B9.out).imp fun _ _ _ => trivial), B9⟩
      subst h2
      have q1 : ((G : Int) != (G : Int)) = false := by simp
      have VV2 : Hid ((!K.eqb L) = false) := Lib.hid (by rw [VV.out]; simp)
      clear VV
      have VV := VV2
      refine wp_region_noPanic ?_
      refine wp_region_held_drew (S := (fun W => RKS w g4 cs c5 W)) (by kernel_rfl) (KC.out.below (Below.refl _ _).drew) (fun hH0 => ?_)
      have hH0 : RKS w g4 cs c5 wC.drew := hH0
      generalize wC.drew = wd4200 at *
      refine wpAnyH_take (i := 0) (oi := { dst := some 21, op := Op.load 30 (Operand.tmp 1), type := 30, pos := "ref.go:43", after := #[], guard := none }) (v := .agg c5) rfl (by kernel_rfl) (by kernel_rfl) (by kernel_rfl) (fun _ _ _ h => h) (yields_row (by rfl) _ _ rfl (w.heap.size) rfl _ _ _ _ (fun W hW => hW.x5) Tryd.underlying30 rfl I5.out) hH0 ?tkr4201
      try simp only [Act.put, List.setIfInBounds_toArray, List.set_cons_zero, List.set_cons_succ]
      refine wpAnyH_take (i := 1) (oi := { dst := some 22, op := Op.fieldAddr 30 (Operand.tmp 1) 1, type := 0, pos := "ref.go:43", after := #[], guard := none }) (v := ?tkv4202) rfl (by kernel_rfl) (by kernel_rfl) (by kernel_rfl) (fun _ _ _ h => h) (Or.inl ⟨by rfl, ?tky4202⟩) hH0 ?tkr4202
      case tky4202 => (intro w' hSw; clear hSw; go_simp; try with_reducible rfl)
      try simp only [Act.put, List.setIfInBounds_toArray, List.set_cons_zero, List.set_cons_succ]
      refine wpAnyH_take (i := 2) (oi := { dst := some 23, op := Op.load 3 (Operand.tmp 22), type := 3, pos := "ref.go:43", after := #[{ on := 1, ground := Ground.data }], guard := none }) (v := ?tkv4203) rfl (by kernel_rfl) (by kernel_rfl) (by kernel_rfl) (fun _ _ _ h => h) (Or.inl ⟨by rfl, ?tky4203⟩) hH0 ?tkr4203
      case tky4203 => (intro w' hSw; have z0 := F51.out _ hSw; have z1 := F52.out _ hSw; have z2 := G41.out _ hSw; have z3 := G42.out _ hSw; clear hSw; go_simp; try with_reducible rfl)
      try simp only [Act.put, List.setIfInBounds_toArray, List.set_cons_zero, List.set_cons_succ]
      refine wpAnyH_take (i := 3) (oi := { dst := some 24, op := Op.fieldAddr 30 (Operand.tmp 4) 1, type := 0, pos := "ref.go:43", after := #[], guard := none }) (v := ?tkv4204) rfl (by kernel_rfl) (by kernel_rfl) (by kernel_rfl) (fun _ _ _ h => h) (Or.inl ⟨by rfl, ?tky4204⟩) hH0 ?tkr4204
      case tky4204 => (intro w' hSw; clear hSw; go_simp; try with_reducible rfl)
      try simp only [Act.put, List.setIfInBounds_toArray, List.set_cons_zero, List.set_cons_succ]
      refine wpAnyH_take (i := 4) (oi := { dst := some 25, op := Op.load 3 (Operand.tmp 24), type := 3, pos := "ref.go:43", after := #[{ on := 3, ground := Ground.data }], guard := none }) (v := ?tkv4205) rfl (by kernel_rfl) (by kernel_rfl) (by kernel_rfl) (fun _ _ _ h => h) (Or.inl ⟨by rfl, ?tky4205⟩) hH0 ?tkr4205
      case tky4205 => (intro w' hSw; have z0 := F51.out _ hSw; have z1 := F52.out _ hSw; have z2 := G41.out _ hSw; have z3 := G42.out _ hSw; clear hSw; go_simp; try with_reducible rfl)
      try simp only [Act.put, List.setIfInBounds_toArray, List.set_cons_zero, List.set_cons_succ]
      refine wpAnyH_take (i := 5) (oi := { dst := some 26, op := Op.binOp BinOp.neq 3 (Operand.tmp 23) (Operand.tmp 25) 3, type := 4, pos := "ref.go:43", after := #[{ on := 2, ground := Ground.data }, { on := 4, ground := Ground.data }], guard := none }) (v := ?tkv4206) rfl (by kernel_rfl) (by kernel_rfl) (by kernel_rfl) (fun _ _ _ h => h) (Or.inl ⟨by rfl, ?tky4206⟩) hH0 ?tkr4206
      case tky4206 => (intro w' hSw; clear hSw; go_simp; try with_reducible rfl)
      try simp only [Act.put, List.setIfInBounds_toArray, List.set_cons_zero, List.set_cons_succ]
      refine wpAnyH_take (i := 6) (oi := { dst := some 27, op := Op.move (Operand.tmp 26), type := 4, pos := "ref.go:43", after := #[{ on := 5, ground := Ground.data }], guard := none }) (v := ?tkv4207) rfl (by kernel_rfl) (by kernel_rfl) (by kernel_rfl) (fun _ _ _ h => h) (Or.inl ⟨by rfl, ?tky4207⟩) hH0 ?tkr4207
      case tky4207 => (intro w' hSw; clear hSw; go_simp; try with_reducible rfl)
      try simp only [Act.put, List.setIfInBounds_toArray, List.set_cons_zero, List.set_cons_succ]
      refine wpAnyH_take (i := 7) (oi := { dst := some 28, op := Op.fieldAddr 30 (Operand.tmp 1) 2, type := 0, pos := "ref.go:43", after := #[{ on := 6, ground := Ground.guard }, { on := 13, ground := Ground.gcOnly Departure.lateStores }], guard := some (6, false) }) (v := ?tkv4208) rfl (by kernel_rfl) (by kernel_rfl) (by kernel_rfl) (fun _ _ _ h => h) (Or.inl ⟨by rfl, ?tky4208⟩) hH0 ?tkr4208
      case tky4208 => (intro w' hSw; clear hSw; go_simp; try with_reducible rfl)
      try simp only [Act.put, List.setIfInBounds_toArray, List.set_cons_zero, List.set_cons_succ]
      refine wpAnyH_take (i := 8) (oi := { dst := some 29, op := Op.load 22 (Operand.tmp 28), type := 22, pos := "ref.go:43", after := #[{ on := 7, ground := Ground.data }, { on := 6, ground := Ground.guard }, { on := 13, ground := Ground.gcOnly Departure.lateStores }], guard := some (6, false) }) (v := ?tkv4209) rfl (by kernel_rfl) (by kernel_rfl) (by kernel_rfl) (fun _ _ _ h => h) (Or.inl ⟨by rfl, ?tky4209⟩) hH0 ?tkr4209
      case tky4209 => (intro w' hSw; have z0 := F51.out _ hSw; have z1 := F52.out _ hSw; have z2 := G41.out _ hSw; have z3 := G42.out _ hSw; clear hSw; go_simp; try with_reducible rfl)
      try simp only [Act.put, List.setIfInBounds_toArray, List.set_cons_zero, List.set_cons_succ]
      refine wpAnyH_take (i := 9) (oi := { dst := some 30, op := Op.fieldAddr 30 (Operand.tmp 4) 2, type := 0, pos := "ref.go:43", after := #[{ on := 6, ground := Ground.guard }, { on := 13, ground := Ground.gcOnly Departure.lateStores }], guard := some (6, false) }) (v := ?tkv4210) rfl (by kernel_rfl) (by kernel_rfl) (by kernel_rfl) (fun _ _ _ h => h) (Or.inl ⟨by rfl, ?tky4210⟩) hH0 ?tkr4210
      case tky4210 => (intro w' hSw; clear hSw; go_simp; try with_reducible rfl)
      try simp only [Act.put, List.setIfInBounds_toArray, List.set_cons_zero, List.set_cons_succ]
      refine wpAnyH_take (i := 10) (oi := { dst := some 31, op := Op.load 22 (Operand.tmp 30), type := 22, pos := "ref.go:43", after := #[{ on := 9, ground := Ground.data }, { on := 6, ground := Ground.guard }, { on := 13, ground := Ground.gcOnly Departure.lateStores }], guard := some (6, false) }) (v := ?tkv4211) rfl (by kernel_rfl) (by kernel_rfl) (by kernel_rfl) (fun _ _ _ h => h) (Or.inl ⟨by rfl, ?tky4211⟩) hH0 ?tkr4211
      case tky4211 => (intro w' hSw; have z0 := F51.out _ hSw; have z1 := F52.out _ hSw; have z2 := G41.out _ hSw; have z3 := G42.out _ hSw; clear hSw; go_simp; try with_reducible rfl)
      try simp only [Act.put, List.setIfInBounds_toArray, List.set_cons_zero, List.set_cons_succ]
      refine wpAnyH_take (i := 11) (oi := { dst := some 32, op := Op.binOp BinOp.neq 22 (Operand.tmp 29) (Operand.tmp 31) 22, type := 4, pos := "ref.go:43", after := #[{ on := 8, ground := Ground.data }, { on := 10, ground := Ground.data }, { on := 6, ground := Ground.guard }, { on := 13, ground := Ground.gcOnly Departure.lateStores }], guard := some (6, false) }) (v := ?tkv4212) rfl (by kernel_rfl) (by kernel_rfl) (by kernel_rfl) (fun _ _ _ h => h) (Or.inl ⟨by rfl, ?tky4212⟩) hH0 ?tkr4212
      case tky4212 => (intro w' hSw; clear hSw; go_simp; try with_reducible rfl)
      try simp only [Act.put, List.setIfInBounds_toArray, List.set_cons_zero, List.set_cons_succ]
      refine wpAnyH_take (i := 12) (oi := { dst := some 33, op := Op.pick (Operand.tmp 27) (Operand.const (Value.bool true)) (Operand.tmp 32), type := 4, pos := "ref.go:43", after := #[{ on := 6, ground := Ground.data }, { on := 11, ground := Ground.data }, { on := 13, ground := Ground.gcOnly Departure.lateStores }], guard := none }) (v := ?tkv4213) rfl (by kernel_rfl) (by kernel_rfl) (by kernel_rfl) (fun _ _ _ h => h) (Or.inl ⟨by rfl, ?tky4213⟩) hH0 ?tkr4213
      case tky4213 => (intro w' hSw; clear hSw; go_simp; try with_reducible rfl)
      try simp only [Act.put, List.setIfInBounds_toArray, List.set_cons_zero, List.set_cons_succ]
      refine wpAnyH_ready (rs := [13]) (by kernel_rfl) (by simp) ?_
      refine AllReadyH.cons (o := { dst := none, op := Op.store 30 (Operand.tmp 2) (Operand.tmp 21), type := 0, pos := "ref.go:43", after := #[{ on := 0, ground := Ground.data }, { on := 6, ground := Ground.chain }, { on := 0, ground := Ground.phase }, { on := 1, ground := Ground.textOnly Departure.lateStores }, { on := 2, ground := Ground.textOnly Departure.lateStores }, { on := 3, ground := Ground.textOnly Departure.lateStores }, { on := 4, ground := Ground.textOnly Departure.lateStores }, { on := 5, ground := Ground.textOnly Departure.lateStores }, { on := 6, ground := Ground.textOnly Departure.lateStores }, { on := 7, ground := Ground.textOnly Departure.lateStores }, { on := 8, ground := Ground.textOnly Departure.lateStores }, { on := 9, ground := Ground.textOnly Departure.lateStores }, { on := 10, ground := Ground.textOnly Departure.lateStores }, { on := 11, ground := Ground.textOnly Departure.lateStores }, { on := 12, ground := Ground.textOnly Departure.lateStores }], guard := none }) rfl (fun K hK => ?_) AllReadyH.nil
      rw [if_pos (by rfl)]
      obtain ⟨z4214, zz4214, zx4214⟩ := (hH0).z
      refine wp_store_row _ _ _ rfl (w.heap.size + 1) c5 rfl rfl _ _ zx4214 I5.out (zz4214.trans Z5.out) O5.out ?_
      have row4214 := Lib.hid (setRow_heap _ _ _ c5 _ _ zx4214)
      have hS4214 : RKS w g4 cs c5 (wd4200.setRow (w.heap.size + 1) c5) := ((hH0).store LG.out c5 Z5.out.symm)
      refine hK.out _ _ hS4214 (fun hH4214 => ?_)
      have hH4214 : RKS w g4 cs c5 (wd4200.setRow (w.heap.size + 1) c5) := hH4214
      clear hK K hS4214
      refine wpAnyH_take (i := 14) (oi := { dst := some 3, op := Op.assign (Operand.tmp 33), type := 4, pos := "ref.go:43", after := #[{ on := 12, ground := Ground.data }, { on := 13, ground := Ground.chain }, { on := 0, ground := Ground.phase }, { on := 1, ground := Ground.phase }, { on := 2, ground := Ground.phase }, { on := 3, ground := Ground.phase }, { on := 4, ground := Ground.phase }, { on := 5, ground := Ground.phase }, { on := 6, ground := Ground.phase }, { on := 7, ground := Ground.phase }, { on := 8, ground := Ground.phase }, { on := 9, ground := Ground.phase }, { on := 10, ground := Ground.phase }, { on := 11, ground := Ground.phase }, { on := 12, ground := Ground.phase }, { on := 13, ground := Ground.phase }], guard := none }) (v := ?tkv4215) rfl (by kernel_rfl) (by kernel_rfl) (by kernel_rfl) (fun _ _ _ h => h) (Or.inl ⟨by rfl, ?tky4215⟩) hH4214 ?tkr4215
      case tky4215 => (intro w' hSw; clear hSw; go_simp; try with_reducible rfl)
      try simp only [Act.put, List.setIfInBounds_toArray, List.set_cons_zero, List.set_cons_succ]
      refine wpAnyH_done (by kernel_rfl) ?_ _
      refine NoPanic.normal ?_
      have B9 := Lib.hid (hH4214).b
      go_wp2_with fail
      refine bodyPost_ret (results_cell_tmp_row rfl _ _ (w.heap.size + 1) _ _ (0, 0) _ rfl row4214.out Tryd.underlying30 rfl I5.out) rfl ?_
      exact ⟨c5, by rw [VV.out]; rfl, Lib.hid ((S5.out.below B9.out).imp fun _ _ _ => trivial), B9⟩
  · have k0 := (cell_of_row w4 w.heap.size 0 _ _ _ X4.out).trans S4.out.c0
    have k2 := (cell_of_row w4 w.heap.size 2 _ _ _ X4.out).trans S4.out.c2
    have kv := (cell_of_row w4 w.heap.size 7 _ _ _ X4.out).trans S4.out.c7
    have f2 := frozen_of_row w4 w.heap.size 2 _ _ X4.out
    change w4.cell? ⟨w.heap.size, 0, none⟩ = some (.int .i64 L.act) at k0
    change w4.cell? ⟨w.heap.size, 2, none⟩ = some (.int .u32 (L.flo : Int)) at k2
    change w4.cell? ⟨w.heap.size, 7, none⟩ = some (.int .u32 (L.v1 : Int)) at kv
    rw [ha] at k0
    go_cut [] (fun wx => Hid (wx = (w4.setCell ⟨w.heap.size, 2, none⟩ (.int .u32 ((max L.flo L.v1 : Nat) : Int))).drew))
    case first =>
      go_region
      go_wp2_with fail
      · go_meet
        exact Lib.hid (by rw [show max L.flo L.v1 = L.v1 by omega])
      · go_meet
        exact Lib.hid (by rw [show max L.flo L.v1 = L.flo by omega])
    case rest =>
      have fin : LSt.confirm L = { L with trial := 0, flo := max L.flo L.v1 } := by unfold LSt.confirm; rw [ha]; rfl
      have FL : Hid (L.confirm.flo = max L.flo L.v1) := Lib.hid (by rw [fin])
      rw [FL.out] at VV
      obtain ⟨G, hG⟩ : ∃ G, max L.flo L.v1 = G := ⟨_, rfl⟩
      rw [hG] at hcut fin VV
      have S5 := Lib.hid (S4.out.set2 G)
      have x5 : wc.heap[w.heap.size]? = some (.cells ((cs.setIfInBounds 1 (.int .i64 0)).setIfInBounds 2 (.int .u32 (G : Int))) 30 (0, 0)) := by rw [hcut.out, drew_heap]; exact heap_setCell_same w4 w.heap.size 2 _ _ _ X4.out
      have kc : RKS w g4 cs ((cs.setIfInBounds 1 (.int .i64 0)).setIfInBounds 2 (.int .u32 (G : Int))) wc := by
        refine ⟨by rw [hcut.out]; exact (B4.out.setCell (Nat.le_refl _) _).drew, x5, ?_, #[.int .i64 0, .int .i64 0, .int .u32 0, .int .u32 0, .int .u32 0, .int .i64 0, .slice none 0 0, .int .u32 0, .int .i64 0, .slice none 0 0, .bool false, .int .u32 0, .int .u32 0, .int .i64 0, .int .i64 0, .int .i64 0, .slice none 0 0], rfl, ?_⟩
        · rw [hcut.out, drew_heap]; exact (heap_setCell_other w4 _ _ _ (by show g4 ≠ w.heap.size; have := LG.out; omega)).trans WX.out
        · rw [hcut.out, drew_heap]; exact (heap_setCell_other w4 _ _ _ (by show w.heap.size + 1 ≠ w.heap.size; omega)).trans YX.out
      rw [← fin] at S5
      obtain ⟨c5, hc5⟩ : ∃ c5, (cs.setIfInBounds 1 (.int .i64 0)).setIfInBounds 2 (.int .u32 (G : Int)) = c5 := ⟨_, rfl⟩
      rw [hc5] at kc S5 x5
      have hf : L.confirm.flo = G := by rw [fin]
      have ht : L.confirm.trial = 0 := by rw [fin]
      have I5 := Lib.hid S5.out.inf
      have O5 := Lib.hid S5.out.one
      have Z5 : Hid (17 = c5.size) := Lib.hid S5.out.size.symm
      obtain ⟨wC, rfl⟩ : ∃ x : World, x = wc := ⟨_, rfl⟩
      have KC := Lib.hid kc
      have C51 : c5[1]? = some (.int .i64 0) := by rw [S5.out.c1, ht]
      have C52 : c5[2]? = some (.int .u32 (G : Int)) := by rw [S5.out.c2, hf]
      have F51 : Hid (∀ W, RKS w g4 cs c5 W → W.cell? ⟨w.heap.size, 1, none⟩ = some (.int .i64 0)) := Lib.hid (fun W hW => (cell_of_row _ _ 1 _ _ _ hW.x5).trans C51)
      have F52 : Hid (∀ W, RKS w g4 cs c5 W → W.cell? ⟨w.heap.size, 2, none⟩ = some (.int .u32 (G : Int))) := Lib.hid (fun W hW => (cell_of_row _ _ 2 _ _ _ hW.x5).trans C52)
      have G41 : Hid (∀ W, RKS w g4 cs c5 W → W.cell? ⟨g4, 1, none⟩ = some (.int .i64 L.trial)) := Lib.hid (fun W hW => (cell_of_row _ _ 1 _ _ _ hW.xw).trans S0.out.c1)
      have G42 : Hid (∀ W, RKS w g4 cs c5 W → W.cell? ⟨g4, 2, none⟩ = some (.int .u32 (L.flo : Int))) := Lib.hid (fun W hW => (cell_of_row _ _ 2 _ _ _ hW.xw).trans S0.out.c2)
      clear x5 kc hc5 fin hcut S4 X4 WX YX B4 k0 k2 kv f2 hf ht C51 C52 FL hG S0
      generalize L.confirm = K at *
      obtain ⟨tr, htr⟩ : ∃ t, L.trial = t := ⟨_, rfl⟩
      obtain ⟨fl, hfl⟩ : ∃ t, L.flo = t := ⟨_, rfl⟩
      rw [htr] at G41 VV
      rw [hfl] at G42 VV
      clear htr hfl
      go_upto_region 6 with fail
      by_cases h0 : tr = 0
      case neg =>
        have q0 : ((0 : Int) != tr) = true := by simpa using fun h => h0 h.symm
        have VV2 : Hid ((!K.eqb L) = true) := Lib.hid (by rw [VV.out]; simp [h0])
        clear h0 VV
        have VV := VV2
        refine wp_region_noPanic ?_
        refine wp_region_held_drew (S := (fun W => RKS w g4 cs c5 W)) (by kernel_rfl) (KC.out.below (Below.refl _ _).drew) (fun hH0 => ?_)
        have hH0 : RKS w g4 cs c5 wC.drew := hH0
        generalize wC.drew = wd5000 at *
        refine wpAnyH_take (i := 0) (oi := { dst := some 21, op := Op.load 30 (Operand.tmp 1), type := 30, pos := "ref.go:43", after := #[], guard := none }) (v := .agg c5) rfl (by kernel_rfl) (by kernel_rfl) (by kernel_rfl) (fun _ _ _ h => h) (yields_row (by rfl) _ _ rfl (w.heap.size) rfl _ _ _ _ (fun W hW => hW.x5) Tryd.underlying30 rfl I5.out) hH0 ?tkr5001
        try simp only [Act.put, List.setIfInBounds_toArray, List.set_cons_zero, List.set_cons_succ]
        refine wpAnyH_take (i := 1) (oi := { dst := some 22, op := Op.fieldAddr 30 (Operand.tmp 1) 1, type := 0, pos := "ref.go:43", after := #[], guard := none }) (v := ?tkv5002) rfl (by kernel_rfl) (by kernel_rfl) (by kernel_rfl) (fun _ _ _ h => h) (Or.inl ⟨by rfl, ?tky5002⟩) hH0 ?tkr5002
        case tky5002 => (intro w' hSw; clear hSw; go_simp; try with_reducible rfl)
        try simp only [Act.put, List.setIfInBounds_toArray, List.set_cons_zero, List.set_cons_succ]
        refine wpAnyH_take (i := 2) (oi := { dst := some 23, op := Op.load 3 (Operand.tmp 22), type := 3, pos := "ref.go:43", after := #[{ on := 1, ground := Ground.data }], guard := none }) (v := ?tkv5003) rfl (by kernel_rfl) (by kernel_rfl) (by kernel_rfl) (fun _ _ _ h => h) (Or.inl ⟨by rfl, ?tky5003⟩) hH0 ?tkr5003
        case tky5003 => (intro w' hSw; have z0 := F51.out _ hSw; have z1 := F52.out _ hSw; have z2 := G41.out _ hSw; have z3 := G42.out _ hSw; clear hSw; go_simp; try with_reducible rfl)
        try simp only [Act.put, List.setIfInBounds_toArray, List.set_cons_zero, List.set_cons_succ]
        refine wpAnyH_take (i := 3) (oi := { dst := some 24, op := Op.fieldAddr 30 (Operand.tmp 4) 1, type := 0, pos := "ref.go:43", after := #[], guard := none }) (v := ?tkv5004) rfl (by kernel_rfl) (by kernel_rfl) (by kernel_rfl) (fun _ _ _ h => h) (Or.inl ⟨by rfl, ?tky5004⟩) hH0 ?tkr5004
        case tky5004 => (intro w' hSw; clear hSw; go_simp; try with_reducible rfl)
        try simp only [Act.put, List.setIfInBounds_toArray, List.set_cons_zero, List.set_cons_succ]
        refine wpAnyH_take (i := 4) (oi := { dst := some 25, op := Op.load 3 (Operand.tmp 24), type := 3, pos := "ref.go:43", after := #[{ on := 3, ground := Ground.data }], guard := none }) (v := ?tkv5005) rfl (by kernel_rfl) (by kernel_rfl) (by kernel_rfl) (fun _ _ _ h => h) (Or.inl ⟨by rfl, ?tky5005⟩) hH0 ?tkr5005
        case tky5005 => (intro w' hSw; have z0 := F51.out _ hSw; have z1 := F52.out _ hSw; have z2 := G41.out _ hSw; have z3 := G42.out _ hSw; clear hSw; go_simp; try with_reducible rfl)
        try simp only [Act.put, List.setIfInBounds_toArray, List.set_cons_zero, List.set_cons_succ]
        refine wpAnyH_take (i := 5) (oi := { dst := some 26, op := Op.binOp BinOp.neq 3 (Operand.tmp 23) (Operand.tmp 25) 3, type := 4, pos := "ref.go:43", after := #[{ on := 2, ground := Ground.data }, { on := 4, ground := Ground.data }], guard := none }) (v := ?tkv5006) rfl (by kernel_rfl) (by kernel_rfl) (by kernel_rfl) (fun _ _ _ h => h) (Or.inl ⟨by rfl, ?tky5006⟩) hH0 ?tkr5006
        case tky5006 => (intro w' hSw; clear hSw; go_simp; try with_reducible rfl)
        try simp only [Act.put, List.setIfInBounds_toArray, List.set_cons_zero, List.set_cons_succ]
        refine wpAnyH_take (i := 6) (oi := { dst := some 27, op := Op.move (Operand.tmp 26), type := 4, pos := "ref.go:43", after := #[{ on := 5, ground := Ground.data }], guard := none }) (v := ?tkv5007) rfl (by kernel_rfl) (by kernel_rfl) (by kernel_rfl) (fun _ _ _ h => h) (Or.inl ⟨by rfl, ?tky5007⟩) hH0 ?tkr5007
        case tky5007 => (intro w' hSw; clear hSw; go_simp; try with_reducible rfl)
        try simp only [Act.put, List.setIfInBounds_toArray, List.set_cons_zero, List.set_cons_succ]
        refine wpAnyH_take (i := 7) (oi := { dst := some 28, op := Op.fieldAddr 30 (Operand.tmp 1) 2, type := 0, pos := "ref.go:43", after := #[{ on := 6, ground := Ground.guard }, { on := 13, ground := Ground.gcOnly Departure.lateStores }], guard := some (6, false) }) (v := undef) rfl (by kernel_rfl) (by kernel_rfl) (by kernel_rfl) (fun _ _ _ h => h) (Or.inr ⟨by rfl, rfl⟩) hH0 ?tkr5008
        try simp only [Act.put, List.setIfInBounds_toArray, List.set_cons_zero, List.set_cons_succ]
        refine wpAnyH_take (i := 8) (oi := { dst := some 29, op := Op.load 22 (Operand.tmp 28), type := 22, pos := "ref.go:43", after := #[{ on := 7, ground := Ground.data }, { on := 6, ground := Ground.guard }, { on := 13, ground := Ground.gcOnly Departure.lateStores }], guard := some (6, false) }) (v := undef) rfl (by kernel_rfl) (by kernel_rfl) (by kernel_rfl) (fun _ _ _ h => h) (Or.inr ⟨by rfl, rfl⟩) hH0 ?tkr5009
        try simp only [Act.put, List.setIfInBounds_toArray, List.set_cons_zero, List.set_cons_succ]
        refine wpAnyH_take (i := 9) (oi := { dst := some 30, op := Op.fieldAddr 30 (Operand.tmp 4) 2, type := 0, pos := "ref.go:43", after := #[{ on := 6, ground := Ground.guard }, { on := 13, ground := Ground.gcOnly Departure.lateStores }], guard := some (6, false) }) (v := undef) rfl (by kernel_rfl) (by kernel_rfl) (by kernel_rfl) (fun _ _ _ h => h) (Or.inr ⟨by rfl, rfl⟩) hH0 ?tkr5010
        try simp only [Act.put, List.setIfInBounds_toArray, List.set_cons_zero, List.set_cons_succ]
        refine wpAnyH_take (i := 10) (oi := { dst := some 31, op := Op.load 22 (Operand.tmp 30), type := 22, pos := "ref.go:43", after := #[{ on := 9, ground := Ground.data }, { on := 6, ground := Ground.guard }, { on := 13, ground := Ground.gcOnly Departure.lateStores }], guard := some (6, false) }) (v := undef) rfl (by kernel_rfl) (by kernel_rfl) (by kernel_rfl) (fun _ _ _ h => h) (Or.inr ⟨by rfl, rfl⟩) hH0 ?tkr5011
        try simp only [Act.put, List.setIfInBounds_toArray, List.set_cons_zero, List.set_cons_succ]
        refine wpAnyH_take (i := 11) (oi := { dst := some 32, op := Op.binOp BinOp.neq 22 (Operand.tmp 29) (Operand.tmp 31) 22, type := 4, pos := "ref.go:43", after := #[{ on := 8, ground := Ground.data }, { on := 10, ground := Ground.data }, { on := 6, ground := Ground.guard }, { on := 13, ground := Ground.gcOnly Departure.lateStores }], guard := some (6, false) }) (v := undef) rfl (by kernel_rfl) (by kernel_rfl) (by kernel_rfl) (fun _ _ _ h => h) (Or.inr ⟨by rfl, rfl⟩) hH0 ?tkr5012
        try simp only [Act.put, List.setIfInBounds_toArray, List.set_cons_zero, List.set_cons_succ]
        refine wpAnyH_take (i := 12) (oi := { dst := some 33, op := Op.pick (Operand.tmp 27) (Operand.const (Value.bool true)) (Operand.tmp 32), type := 4, pos := "ref.go:43", after := #[{ on := 6, ground := Ground.data }, { on := 11, ground := Ground.data }, { on := 13, ground := Ground.gcOnly Departure.lateStores }], guard := none }) (v := ?tkv5013) rfl (by kernel_rfl) (by kernel_rfl) (by kernel_rfl) (fun _ _ _ h => h) (Or.inl ⟨by rfl, ?tky5013⟩) hH0 ?tkr5013
        case tky5013 => (intro w' hSw; clear hSw; go_simp; try with_reducible rfl)
        try simp only [Act.put, List.setIfInBounds_toArray, List.set_cons_zero, List.set_cons_succ]
        refine wpAnyH_ready (rs := [13]) (by kernel_rfl) (by simp) ?_
        refine AllReadyH.cons (o := { dst := none, op := Op.store 30 (Operand.tmp 2) (Operand.tmp 21), type := 0, pos := "ref.go:43", after := #[{ on := 0, ground := Ground.data }, { on := 6, ground := Ground.chain }, { on := 0, ground := Ground.phase }, { on := 1, ground := Ground.textOnly Departure.lateStores }, { on := 2, ground := Ground.textOnly Departure.lateStores }, { on := 3, ground := Ground.textOnly Departure.lateStores }, { on := 4, ground := Ground.textOnly Departure.lateStores }, { on := 5, ground := Ground.textOnly Departure.lateStores }, { on := 6, ground := Ground.textOnly Departure.lateStores }, { on := 7, ground := Ground.textOnly Departure.lateStores }, { on := 8, ground := Ground.textOnly Departure.lateStores }, { on := 9, ground := Ground.textOnly Departure.lateStores }, { on := 10, ground := Ground.textOnly Departure.lateStores }, { on := 11, ground := Ground.textOnly Departure.lateStores }, { on := 12, ground := Ground.textOnly Departure.lateStores }], guard := none }) rfl (fun K hK => ?_) AllReadyH.nil
        rw [if_pos (by rfl)]
        obtain ⟨z5014, zz5014, zx5014⟩ := (hH0).z
        refine wp_store_row _ _ _ rfl (w.heap.size + 1) c5 rfl rfl _ _ zx5014 I5.out (zz5014.trans Z5.out) O5.out ?_
        have row5014 := Lib.hid (setRow_heap _ _ _ c5 _ _ zx5014)
        have hS5014 : RKS w g4 cs c5 (wd5000.setRow (w.heap.size + 1) c5) := ((hH0).store LG.out c5 Z5.out.symm)
        refine hK.out _ _ hS5014 (fun hH5014 => ?_)
        have hH5014 : RKS w g4 cs c5 (wd5000.setRow (w.heap.size + 1) c5) := hH5014
        clear hK K hS5014
        refine wpAnyH_take (i := 14) (oi := { dst := some 3, op := Op.assign (Operand.tmp 33), type := 4, pos := "ref.go:43", after := #[{ on := 12, ground := Ground.data }, { on := 13, ground := Ground.chain }, { on := 0, ground := Ground.phase }, { on := 1, ground := Ground.phase }, { on := 2, ground := Ground.phase }, { on := 3, ground := Ground.phase }, { on := 4, ground := Ground.phase }, { on := 5, ground := Ground.phase }, { on := 6, ground := Ground.phase }, { on := 7, ground := Ground.phase }, { on := 8, ground := Ground.phase }, { on := 9, ground := Ground.phase }, { on := 10, ground := Ground.phase }, { on := 11, ground := Ground.phase }, { on := 12, ground := Ground.phase }, { on := 13, ground := Ground.phase }], guard := none }) (v := ?tkv5015) rfl (by kernel_rfl) (by kernel_rfl) (by kernel_rfl) (fun _ _ _ h => h) (Or.inl ⟨by rfl, ?tky5015⟩) hH5014 ?tkr5015
        case tky5015 => (intro w' hSw; clear hSw; go_simp; try with_reducible rfl)
        try simp only [Act.put, List.setIfInBounds_toArray, List.set_cons_zero, List.set_cons_succ]
        refine wpAnyH_done (by kernel_rfl) ?_ _
        refine NoPanic.normal ?_
        have B9 := Lib.hid (hH5014).b
        go_wp2_with fail
        refine bodyPost_ret (results_cell_tmp_row rfl _ _ (w.heap.size + 1) _ _ (0, 0) _ rfl row5014.out Tryd.underlying30 rfl I5.out) rfl ?_
        exact ⟨c5, by rw [VV.out]; rfl, Lib.hid ((S5.out.below B9.out).imp fun _ _ _ => trivial), B9⟩
      subst h0
      by_cases h2 : G = fl
      case neg =>
        have q1 : ((G : Int) != (fl : Int)) = true := by simp; omega
        have VV2 : Hid ((!K.eqb L) = true) := Lib.hid (by rw [VV.out]; simp [h2])
        clear h2 VV
        have VV := VV2
        refine wp_region_noPanic ?_
        refine wp_region_held_drew (S := (fun W => RKS w g4 cs c5 W)) (by kernel_rfl) (KC.out.below (Below.refl _ _).drew) (fun hH0 => ?_)
        have hH0 : RKS w g4 cs c5 wC.drew := hH0
        generalize wC.drew = wd5100 at *
        refine wpAnyH_take (i := 0) (oi := { dst := some 21, op := Op.load 30 (Operand.tmp 1), type := 30, pos := "ref.go:43", after := #[], guard := none }) (v := .agg c5) rfl (by kernel_rfl) (by kernel_rfl) (by kernel_rfl) (fun _ _ _ h => h) (yields_row (by rfl) _ _ rfl (w.heap.size) rfl _ _ _ _ (fun W hW => hW.x5) Tryd.underlying30 rfl I5.out) hH0 ?tkr5101
        try simp only [Act.put, List.setIfInBounds_toArray, List.set_cons_zero, List.set_cons_succ]
        refine wpAnyH_take (i := 1) (oi := { dst := some 22, op := Op.fieldAddr 30 (Operand.tmp 1) 1, type := 0, pos := "ref.go:43", after := #[], guard := none }) (v := ?tkv5102) rfl (by kernel_rfl) (by kernel_rfl) (by kernel_rfl) (fun _ _ _ h => h) (Or.inl ⟨by rfl, ?tky5102⟩) hH0 ?tkr5102
        case tky5102 => (intro w' hSw; clear hSw; go_simp; try with_reducible rfl)
        try simp only [Act.put, List.setIfInBounds_toArray, List.set_cons_zero, List.set_cons_succ]
        refine wpAnyH_take (i := 2) (oi := { dst := some 23, op := Op.load 3 (Operand.tmp 22), type := 3, pos := "ref.go:43", after := #[{ on := 1, ground := Ground.data }], guard := none }) (v := ?tkv5103) rfl (by kernel_rfl) (by kernel_rfl) (by kernel_rfl) (fun _ _ _ h => h) (Or.inl ⟨by rfl, ?tky5103⟩) hH0 ?tkr5103
        case tky5103 => (intro w' hSw; have z0 := F51.out _ hSw; have z1 := F52.out _ hSw; have z2 := G41.out _ hSw; have z3 := G42.out _ hSw; clear hSw; go_simp; try with_reducible rfl)
        try simp only [Act.put, List.setIfInBounds_toArray, List.set_cons_zero, List.set_cons_succ]
        refine wpAnyH_take (i := 3) (oi := { dst := some 24, op := Op.fieldAddr 30 (Operand.tmp 4) 1, type := 0, pos := "ref.go:43", after := #[], guard := none }) (v := ?tkv5104) rfl (by kernel_rfl) (by kernel_rfl) (by kernel_rfl) (fun _ _ _ h => h) (Or.inl ⟨by rfl, ?tky5104⟩) hH0 ?tkr5104
        case tky5104 => (intro w' hSw; clear hSw; go_simp; try with_reducible rfl)
        try simp only [Act.put, List.setIfInBounds_toArray, List.set_cons_zero, List.set_cons_succ]
        refine wpAnyH_take (i := 4) (oi := { dst := some 25, op := Op.load 3 (Operand.tmp 24), type := 3, pos := "ref.go:43", after := #[{ on := 3, ground := Ground.data }], guard := none }) (v := ?tkv5105) rfl (by kernel_rfl) (by kernel_rfl) (by kernel_rfl) (fun _ _ _ h => h) (Or.inl ⟨by rfl, ?tky5105⟩) hH0 ?tkr5105
        case tky5105 => (intro w' hSw; have z0 := F51.out _ hSw; have z1 := F52.out _ hSw; have z2 := G41.out _ hSw; have z3 := G42.out _ hSw; clear hSw; go_simp; try with_reducible rfl)
        try simp only [Act.put, List.setIfInBounds_toArray, List.set_cons_zero, List.set_cons_succ]
        refine wpAnyH_take (i := 5) (oi := { dst := some 26, op := Op.binOp BinOp.neq 3 (Operand.tmp 23) (Operand.tmp 25) 3, type := 4, pos := "ref.go:43", after := #[{ on := 2, ground := Ground.data }, { on := 4, ground := Ground.data }], guard := none }) (v := ?tkv5106) rfl (by kernel_rfl) (by kernel_rfl) (by kernel_rfl) (fun _ _ _ h => h) (Or.inl ⟨by rfl, ?tky5106⟩) hH0 ?tkr5106
        case tky5106 => (intro w' hSw; clear hSw; go_simp; try with_reducible rfl)
        try simp only [Act.put, List.setIfInBounds_toArray, List.set_cons_zero, List.set_cons_succ]
        refine wpAnyH_take (i := 6) (oi := { dst := some 27, op := Op.move (Operand.tmp 26), type := 4, pos := "ref.go:43", after := #[{ on := 5, ground := Ground.data }], guard := none }) (v := ?tkv5107) rfl (by kernel_rfl) (by kernel_rfl) (by kernel_rfl) (fun _ _ _ h => h) (Or.inl ⟨by rfl, ?tky5107⟩) hH0 ?tkr5107
        case tky5107 => (intro w' hSw; clear hSw; go_simp; try with_reducible rfl)
        try simp only [Act.put, List.setIfInBounds_toArray, List.set_cons_zero, List.set_cons_succ]
        refine wpAnyH_take (i := 7) (oi := { dst := some 28, op := Op.fieldAddr 30 (Operand.tmp 1) 2, type := 0, pos := "ref.go:43", after := #[{ on := 6, ground := Ground.guard }, { on := 13, ground := Ground.gcOnly Departure.lateStores }], guard := some (6, false) }) (v := ?tkv5108) rfl (by kernel_rfl) (by kernel_rfl) (by kernel_rfl) (fun _ _ _ h => h) (Or.inl ⟨by rfl, ?tky5108⟩) hH0 ?tkr5108
        case tky5108 => (intro w' hSw; clear hSw; go_simp; try with_reducible rfl)
        try simp only [Act.put, List.setIfInBounds_toArray, List.set_cons_zero, List.set_cons_succ]
        refine wpAnyH_take (i := 8) (oi := { dst := some 29, op := Op.load 22 (Operand.tmp 28), type := 22, pos := "ref.go:43", after := #[{ on := 7, ground := Ground.data }, { on := 6, ground := Ground.guard }, { on := 13, ground := Ground.gcOnly Departure.lateStores }], guard := some (6, false) }) (v := ?tkv5109) rfl (by kernel_rfl) (by kernel_rfl) (by kernel_rfl) (fun _ _ _ h => h) (Or.inl ⟨by rfl, ?tky5109⟩) hH0 ?tkr5109
        case tky5109 => (intro w' hSw; have z0 := F51.out _ hSw; have z1 := F52.out _ hSw; have z2 := G41.out _ hSw; have z3 := G42.out _ hSw; clear hSw; go_simp; try with_reducible rfl)
        try simp only [Act.put, List.setIfInBounds_toArray, List.set_cons_zero, List.set_cons_succ]
        refine wpAnyH_take (i := 9) (oi := { dst := some 30, op := Op.fieldAddr 30 (Operand.tmp 4) 2, type := 0, pos := "ref.go:43", after := #[{ on := 6, ground := Ground.guard }, { on := 13, ground := Ground.gcOnly Departure.lateStores }], guard := some (6, false) }) (v := ?tkv5110) rfl (by kernel_rfl) (by kernel_rfl) (by kernel_rfl) (fun _ _ _ h => h) (Or.inl ⟨by rfl, ?tky5110⟩) hH0 ?tkr5110
        case tky5110 => (intro w' hSw; clear hSw; go_simp; try with_reducible rfl)
        try simp only [Act.put, List.setIfInBounds_toArray, List.set_cons_zero, List.set_cons_succ]
        refine wpAnyH_take (i := 10) (oi := { dst := some 31, op := Op.load 22 (Operand.tmp 30), type := 22, pos := "ref.go:43", after := #[{ on := 9, ground := Ground.data }, { on := 6, ground := Ground.guard }, { on := 13, ground := Ground.gcOnly Departure.lateStores }], guard := some (6, false) }) (v := ?tkv5111) rfl (by kernel_rfl) (by kernel_rfl) (by kernel_rfl) (fun _ _ _ h => h) (Or.inl ⟨by rfl, ?tky5111⟩) hH0 ?tkr5111
        case tky5111 => (intro w' hSw; have z0 := F51.out _ hSw; have z1 := F52.out _ hSw; have z2 := G41.out _ hSw; have z3 := G42.out _ hSw; clear hSw; go_simp; try with_reducible rfl)
        try simp only [Act.put, List.setIfInBounds_toArray, List.set_cons_zero, List.set_cons_succ]
        refine wpAnyH_take (i := 11) (oi := { dst := some 32, op := Op.binOp BinOp.neq 22 (Operand.tmp 29) (Operand.tmp 31) 22, type := 4, pos := "ref.go:43", after := #[{ on := 8, ground := Ground.data }, { on := 10, ground := Ground.data }, { on := 6, ground := Ground.guard }, { on := 13, ground := Ground.gcOnly Departure.lateStores }], guard := some (6, false) }) (v := ?tkv5112) rfl (by kernel_rfl) (by kernel_rfl) (by kernel_rfl) (fun _ _ _ h => h) (Or.inl ⟨by rfl, ?tky5112⟩) hH0 ?tkr5112
        case tky5112 => (intro w' hSw; clear hSw; go_simp; try with_reducible rfl)
        try simp only [Act.put, List.setIfInBounds_toArray, List.set_cons_zero, List.set_cons_succ]
        refine wpAnyH_take (i := 12) (oi := { dst := some 33, op := Op.pick (Operand.tmp 27) (Operand.const (Value.bool true)) (Operand.tmp 32), type := 4, pos := "ref.go:43", after := #[{ on := 6, ground := Ground.data }, { on := 11, ground := Ground.data }, { on := 13, ground := Ground.gcOnly Departure.lateStores }], guard := none }) (v := ?tkv5113) rfl (by kernel_rfl) (by kernel_rfl) (by kernel_rfl) (fun _ _ _ h => h) (Or.inl ⟨by rfl, ?tky5113⟩) hH0 ?tkr5113
        case tky5113 => (intro w' hSw; clear hSw; go_simp; try with_reducible rfl)
        try simp only [Act.put, List.setIfInBounds_toArray, List.set_cons_zero, List.set_cons_succ]
        refine wpAnyH_ready (rs := [13]) (by kernel_rfl) (by simp) ?_
        refine AllReadyH.cons (o := { dst := none, op := Op.store 30 (Operand.tmp 2) (Operand.tmp 21), type := 0, pos := "ref.go:43", after := #[{ on := 0, ground := Ground.data }, { on := 6, ground := Ground.chain }, { on := 0, ground := Ground.phase }, { on := 1, ground := Ground.textOnly Departure.lateStores }, { on := 2, ground := Ground.textOnly Departure.lateStores }, { on := 3, ground := Ground.textOnly Departure.lateStores }, { on := 4, ground := Ground.textOnly Departure.lateStores }, { on := 5, ground := Ground.textOnly Departure.lateStores }, { on := 6, ground := Ground.textOnly Departure.lateStores }, { on := 7, ground := Ground.textOnly Departure.lateStores }, { on := 8, ground := Ground.textOnly Departure.lateStores }, { on := 9, ground := Ground.textOnly Departure.lateStores }, { on := 10, ground := Ground.textOnly Departure.lateStores }, { on := 11, ground := Ground.textOnly Departure.lateStores }, { on := 12, ground := Ground.textOnly Departure.lateStores }], guard := none }) rfl (fun K hK => ?_) AllReadyH.nil
        rw [if_pos (by rfl)]
        obtain ⟨z5114, zz5114, zx5114⟩ := (hH0).z
        refine wp_store_row _ _ _ rfl (w.heap.size + 1) c5 rfl rfl _ _ zx5114 I5.out (zz5114.trans Z5.out) O5.out ?_
        have row5114 := Lib.hid (setRow_heap _ _ _ c5 _ _ zx5114)
        have hS5114 : RKS w g4 cs c5 (wd5100.setRow (w.heap.size + 1) c5) := ((hH0).store LG.out c5 Z5.out.symm)
        refine hK.out _ _ hS5114 (fun hH5114 => ?_)
        have hH5114 : RKS w g4 cs c5 (wd5100.setRow (w.heap.size + 1) c5) := hH5114
        clear hK K hS5114
        refine wpAnyH_take (i := 14) (oi := { dst := some 3, op := Op.assign (Operand.tmp 33), type := 4, pos := "ref.go:43", after := #[{ on := 12, ground := Ground.data }, { on := 13, ground := Ground.chain }, { on := 0, ground := Ground.phase }, { on := 1, ground := Ground.phase }, { on := 2, ground := Ground.phase }, { on := 3, ground := Ground.phase }, { on := 4, ground := Ground.phase }, { on := 5, ground := Ground.phase }, { on := 6, ground := Ground.phase }, { on := 7, ground := Ground.phase }, { on := 8, ground := Ground.phase }, { on := 9, ground := Ground.phase }, { on := 10, ground := Ground.phase }, { on := 11, ground := Ground.phase }, { on := 12, ground := Ground.phase }, { on := 13, ground := Ground.phase }], guard := none }) (v := ?tkv5115) rfl (by kernel_rfl) (by kernel_rfl) (by kernel_rfl) (fun _ _ _ h => h) (Or.inl ⟨by rfl, ?tky5115⟩) hH5114 ?tkr5115
        case tky5115 => (intro w' hSw; clear hSw; go_simp; try with_reducible rfl)
        try simp only [Act.put, List.setIfInBounds_toArray, List.set_cons_zero, List.set_cons_succ]
        refine wpAnyH_done (by kernel_rfl) ?_ _
        refine NoPanic.normal ?_
        have B9 := Lib.hid (hH5114).b
        go_wp2_with fail
        refine bodyPost_ret (results_cell_tmp_row rfl _ _ (w.heap.size + 1) _ _ (0, 0) _ rfl row5114.out Tryd.underlying30 rfl I5.out) rfl ?_
        exact ⟨c5, by rw [VV.out]; rfl, Lib.hid ((S5.out.below B9.out).imp fun _ _ _ => trivial), B9⟩
      subst h2
      have q1 : ((G : Int) != (G : Int)) = false := by simp
      have VV2 : Hid ((!K.eqb L) = false) := Lib.hid (by rw [VV.out]; simp)
      clear VV
      have VV := VV2
      refine wp_region_noPanic ?_
      refine wp_region_held_drew (S := (fun W => RKS w g4 cs c5 W)) (by kernel_rfl) (KC.out.below (Below.refl _ _).drew) (fun hH0 => ?_)
      have hH0 : RKS w g4 cs c5 wC.drew := hH0
      generalize wC.drew = wd5200 at *
      refine wpAnyH_take (i := 0) (oi := { dst := some 21, op := Op.load 30 (Operand.tmp 1), type := 30, pos := "ref.go:43", after := #[], guard := none }) (v := .agg c5) rfl (by kernel_rfl) (by kernel_rfl) (by kernel_rfl) (fun _ _ _ h => h) (yields_row (by rfl) _ _ rfl (w.heap.size) rfl _ _ _ _ (fun W hW => hW.x5) Tryd.underlying30 rfl I5.out) hH0 ?tkr5201
      try simp only [Act.put, List.setIfInBounds_toArray, List.set_cons_zero, List.set_cons_succ]
      refine wpAnyH_take (i := 1) (oi := { dst := some 22, op := Op.fieldAddr 30 (Operand.tmp 1) 1, type := 0, pos := "ref.go:43", after := #[], guard := none }) (v := ?tkv5202) rfl (by kernel_rfl) (by kernel_rfl) (by kernel_rfl) (fun _ _ _ h => h) (Or.inl ⟨by rfl, ?tky5202⟩) hH0 ?tkr5202
      case tky5202 => (intro w' hSw; clear hSw; go_simp; try with_reducible rfl)
      try simp only [Act.put, List.setIfInBounds_toArray, List.set_cons_zero, List.set_cons_succ]
      refine wpAnyH_take (i := 2) (oi := { dst := some 23, op := Op.load 3 (Operand.tmp 22), type := 3, pos := "ref.go:43", after := #[{ on := 1, ground := Ground.data }], guard := none }) (v := ?tkv5203) rfl (by kernel_rfl) (by kernel_rfl) (by kernel_rfl) (fun _ _ _ h => h) (Or.inl ⟨by rfl, ?tky5203⟩) hH0 ?tkr5203
      case tky5203 => (intro w' hSw; have z0 := F51.out _ hSw; have z1 := F52.out _ hSw; have z2 := G41.out _ hSw; have z3 := G42.out _ hSw; clear hSw; go_simp; try with_reducible rfl)
      try simp only [Act.put, List.setIfInBounds_toArray, List.set_cons_zero, List.set_cons_succ]
      refine wpAnyH_take (i := 3) (oi := { dst := some 24, op := Op.fieldAddr 30 (Operand.tmp 4) 1, type := 0, pos := "ref.go:43", after := #[], guard := none }) (v := ?tkv5204) rfl (by kernel_rfl) (by kernel_rfl) (by kernel_rfl) (fun _ _ _ h => h) (Or.inl ⟨by rfl, ?tky5204⟩) hH0 ?tkr5204
      case tky5204 => (intro w' hSw; clear hSw; go_simp; try with_reducible rfl)
      try simp only [Act.put, List.setIfInBounds_toArray, List.set_cons_zero, List.set_cons_succ]
      refine wpAnyH_take (i := 4) (oi := { dst := some 25, op := Op.load 3 (Operand.tmp 24), type := 3, pos := "ref.go:43", after := #[{ on := 3, ground := Ground.data }], guard := none }) (v := ?tkv5205) rfl (by kernel_rfl) (by kernel_rfl) (by kernel_rfl) (fun _ _ _ h => h) (Or.inl ⟨by rfl, ?tky5205⟩) hH0 ?tkr5205
      case tky5205 => (intro w' hSw; have z0 := F51.out _ hSw; have z1 := F52.out _ hSw; have z2 := G41.out _ hSw; have z3 := G42.out _ hSw; clear hSw; go_simp; try with_reducible rfl)
      try simp only [Act.put, List.setIfInBounds_toArray, List.set_cons_zero, List.set_cons_succ]
      refine wpAnyH_take (i := 5) (oi := { dst := some 26, op := Op.binOp BinOp.neq 3 (Operand.tmp 23) (Operand.tmp 25) 3, type := 4, pos := "ref.go:43", after := #[{ on := 2, ground := Ground.data }, { on := 4, ground := Ground.data }], guard := none }) (v := ?tkv5206) rfl (by kernel_rfl) (by kernel_rfl) (by kernel_rfl) (fun _ _ _ h => h) (Or.inl ⟨by rfl, ?tky5206⟩) hH0 ?tkr5206
      case tky5206 => (intro w' hSw; clear hSw; go_simp; try with_reducible rfl)
      try simp only [Act.put, List.setIfInBounds_toArray, List.set_cons_zero, List.set_cons_succ]
      refine wpAnyH_take (i := 6) (oi := { dst := some 27, op := Op.move (Operand.tmp 26), type := 4, pos := "ref.go:43", after := #[{ on := 5, ground := Ground.data }], guard := none }) (v := ?tkv5207) rfl (by kernel_rfl) (by kernel_rfl) (by kernel_rfl) (fun _ _ _ h => h) (Or.inl ⟨by rfl, ?tky5207⟩) hH0 ?tkr5207
      case tky5207 => (intro w' hSw; clear hSw; go_simp; try with_reducible rfl)
      try simp only [Act.put, List.setIfInBounds_toArray, List.set_cons_zero, List.set_cons_succ]
      refine wpAnyH_take (i := 7) (oi := { dst := some 28, op := Op.fieldAddr 30 (Operand.tmp 1) 2, type := 0, pos := "ref.go:43", after := #[{ on := 6, ground := Ground.guard }, { on := 13, ground := Ground.gcOnly Departure.lateStores }], guard := some (6, false) }) (v := ?tkv5208) rfl (by kernel_rfl) (by kernel_rfl) (by kernel_rfl) (fun _ _ _ h => h) (Or.inl ⟨by rfl, ?tky5208⟩) hH0 ?tkr5208
      case tky5208 => (intro w' hSw; clear hSw; go_simp; try with_reducible rfl)
      try simp only [Act.put, List.setIfInBounds_toArray, List.set_cons_zero, List.set_cons_succ]
      refine wpAnyH_take (i := 8) (oi := { dst := some 29, op := Op.load 22 (Operand.tmp 28), type := 22, pos := "ref.go:43", after := #[{ on := 7, ground := Ground.data }, { on := 6, ground := Ground.guard }, { on := 13, ground := Ground.gcOnly Departure.lateStores }], guard := some (6, false) }) (v := ?tkv5209) rfl (by kernel_rfl) (by kernel_rfl) (by kernel_rfl) (fun _ _ _ h => h) (Or.inl ⟨by rfl, ?tky5209⟩) hH0 ?tkr5209
      case tky5209 => (intro w' hSw; have z0 := F51.out _ hSw; have z1 := F52.out _ hSw; have z2 := G41.out _ hSw; have z3 := G42.out _ hSw; clear hSw; go_simp; try with_reducible rfl)
      try simp only [Act.put, List.setIfInBounds_toArray, List.set_cons_zero, List.set_cons_succ]
      refine wpAnyH_take (i := 9) (oi := { dst := some 30, op := Op.fieldAddr 30 (Operand.tmp 4) 2, type := 0, pos := "ref.go:43", after := #[{ on := 6, ground := Ground.guard }, { on := 13, ground := Ground.gcOnly Departure.lateStores }], guard := some (6, false) }) (v := ?tkv5210) rfl (by kernel_rfl) (by kernel_rfl) (by kernel_rfl) (fun _ _ _ h => h) (Or.inl ⟨by rfl, ?tky5210⟩) hH0 ?tkr5210
      case tky5210 => (intro w' hSw; clear hSw; go_simp; try with_reducible rfl)
      try simp only [Act.put, List.setIfInBounds_toArray, List.set_cons_zero, List.set_cons_succ]
      refine wpAnyH_take (i := 10) (oi := { dst := some 31, op := Op.load 22 (Operand.tmp 30), type := 22, pos := "ref.go:43", after := #[{ on := 9, ground := Ground.data }, { on := 6, ground := Ground.guard }, { on := 13, ground := Ground.gcOnly Departure.lateStores }], guard := some (6, false) }) (v := ?tkv5211) rfl (by kernel_rfl) (by kernel_rfl) (by kernel_rfl) (fun _ _ _ h => h) (Or.inl ⟨by rfl, ?tky5211⟩) hH0 ?tkr5211
      case tky5211 => (intro w' hSw; have z0 := F51.out _ hSw; have z1 := F52.out _ hSw; have z2 := G41.out _ hSw; have z3 := G42.out _ hSw; clear hSw; go_simp; try with_reducible rfl)
      try simp only [Act.put, List.setIfInBounds_toArray, List.set_cons_zero, List.set_cons_succ]
      refine wpAnyH_take (i := 11) (oi := { dst := some 32, op := Op.binOp BinOp.neq 22 (Operand.tmp 29) (Operand.tmp 31) 22, type := 4, pos := "ref.go:43", after := #[{ on := 8, ground := Ground.data }, { on := 10, ground := Ground.data }, { on := 6, ground := Ground.guard }, { on := 13, ground := Ground.gcOnly Departure.lateStores }], guard := some (6, false) }) (v := ?tkv5212) rfl (by kernel_rfl) (by kernel_rfl) (by kernel_rfl) (fun _ _ _ h => h) (Or.inl ⟨by rfl, ?tky5212⟩) hH0 ?tkr5212
      case tky5212 => (intro w' hSw; clear hSw; go_simp; try with_reducible rfl)
      try simp only [Act.put, List.setIfInBounds_toArray, List.set_cons_zero, List.set_cons_succ]
      refine wpAnyH_take (i := 12) (oi := { dst := some 33, op := Op.pick (Operand.tmp 27) (Operand.const (Value.bool true)) (Operand.tmp 32), type := 4, pos := "ref.go:43", after := #[{ on := 6, ground := Ground.data }, { on := 11, ground := Ground.data }, { on := 13, ground := Ground.gcOnly Departure.lateStores }], guard := none }) (v := ?tkv5213) rfl (by kernel_rfl) (by kernel_rfl) (by kernel_rfl) (fun _ _ _ h => h) (Or.inl ⟨by rfl, ?tky5213⟩) hH0 ?tkr5213
      case tky5213 => (intro w' hSw; clear hSw; go_simp; try with_reducible rfl)
      try simp only [Act.put, List.setIfInBounds_toArray, List.set_cons_zero, List.set_cons_succ]
      refine wpAnyH_ready (rs := [13]) (by kernel_rfl) (by simp) ?_
      refine AllReadyH.cons (o := { dst := none, op := Op.store 30 (Operand.tmp 2) (Operand.tmp 21), type := 0, pos := "ref.go:43", after := #[{ on := 0, ground := Ground.data }, { on := 6, ground := Ground.chain }, { on := 0, ground := Ground.phase }, { on := 1, ground := Ground.textOnly Departure.lateStores }, { on := 2, ground := Ground.textOnly Departure.lateStores }, { on := 3, ground := Ground.textOnly Departure.lateStores }, { on := 4, ground := Ground.textOnly Departure.lateStores }, { on := 5, ground := Ground.textOnly Departure.lateStores }, { on := 6, ground := Ground.textOnly Departure.lateStores }, { on := 7, ground := Ground.textOnly Departure.lateStores }, { on := 8, ground := Ground.textOnly Departure.lateStores }, { on := 9, ground := Ground.textOnly Departure.lateStores }, { on := 10, ground := Ground.textOnly Departure.lateStores }, { on := 11, ground := Ground.textOnly Departure.lateStores }, { on := 12, ground := Ground.textOnly Departure.lateStores }], guard := none }) rfl (fun K hK => ?_) AllReadyH.nil
      rw [if_pos (by rfl)]
      obtain ⟨z5214, zz5214, zx5214⟩ := (hH0).z
      refine wp_store_row _ _ _ rfl (w.heap.size + 1) c5 rfl rfl _ _ zx5214 I5.out (zz5214.trans Z5.out) O5.out ?_
      have row5214 := Lib.hid (setRow_heap _ _ _ c5 _ _ zx5214)
      have hS5214 : RKS w g4 cs c5 (wd5200.setRow (w.heap.size + 1) c5) := ((hH0).store LG.out c5 Z5.out.symm)
      refine hK.out _ _ hS5214 (fun hH5214 => ?_)
      have hH5214 : RKS w g4 cs c5 (wd5200.setRow (w.heap.size + 1) c5) := hH5214
      clear hK K hS5214
      refine wpAnyH_take (i := 14) (oi := { dst := some 3, op := Op.assign (Operand.tmp 33), type := 4, pos := "ref.go:43", after := #[{ on := 12, ground := Ground.data }, { on := 13, ground := Ground.chain }, { on := 0, ground := Ground.phase }, { on := 1, ground := Ground.phase }, { on := 2, ground := Ground.phase }, { on := 3, ground := Ground.phase }, { on := 4, ground := Ground.phase }, { on := 5, ground := Ground.phase }, { on := 6, ground := Ground.phase }, { on := 7, ground := Ground.phase }, { on := 8, ground := Ground.phase }, { on := 9, ground := Ground.phase }, { on := 10, ground := Ground.phase }, { on := 11, ground := Ground.phase }, { on := 12, ground := Ground.phase }, { on := 13, ground := Ground.phase }], guard := none }) (v := ?tkv5215) rfl (by kernel_rfl) (by kernel_rfl) (by kernel_rfl) (fun _ _ _ h => h) (Or.inl ⟨by rfl, ?tky5215⟩) hH5214 ?tkr5215
      case tky5215 => (intro w' hSw; clear hSw; go_simp; try with_reducible rfl)
      try simp only [Act.put, List.setIfInBounds_toArray, List.set_cons_zero, List.set_cons_succ]
      refine wpAnyH_done (by kernel_rfl) ?_ _
      refine NoPanic.normal ?_
      have B9 := Lib.hid (hH5214).b
      go_wp2_with fail
      refine bodyPost_ret (results_cell_tmp_row rfl _ _ (w.heap.size + 1) _ _ (0, 0) _ rfl row5214.out Tryd.underlying30 rfl I5.out) rfl ?_
      exact ⟨c5, by rw [VV.out]; rfl, Lib.hid ((S5.out.below B9.out).imp fun _ _ _ => trivial), B9⟩
end Go.Proofs.YtoclckfpbmglfaaDoor
