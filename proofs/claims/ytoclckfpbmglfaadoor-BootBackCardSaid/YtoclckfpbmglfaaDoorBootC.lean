/- boot.Confirm: by contract, states as data. -/
import Derived.Test.YtoclckfpbmglfaaDoorBoot
namespace Go.Proofs.YtoclckfpbmglfaaDoor
open Go.RowKit
def LSt.confirm (L : LSt) : LSt := { L with trial := 0, flo := max L.flo (if L.act = 0 then L.v0 else L.v1) }
/-- what holds at Confirm's end: next in block g4, s in the first box, its answer's box behind it -/
structure KS (w : World) (g4 : Nat) (cs c5 : Array Value) (L K : LSt) (W : World) : Prop where
  b : Below w.heap.size w W
  x5 : W.heap[g4]? = some (.cells c5 30 (0, 0))
  xs : W.heap[w.heap.size]? = some (.cells cs 30 (0, 0))
  s5 : IsSt W (fun b => w.heap.size + 1 < b) c5 K
  so : IsSt W (fun b => b ≠ w.heap.size + 1) cs L
  z : ∃ z : Array Value, z.size = 17 ∧ W.heap[w.heap.size + 1]? = some (.cells z 30 (0, 0))
theorem KS.below {w : World} {g4 : Nat} {cs c5 : Array Value} {L K : LSt} {W W' : World} (h : KS w g4 cs c5 L K W) (hb : Below W.heap.size W W') : KS w g4 cs c5 L K W' := by
  obtain ⟨b, x5, xs, s5, so, z, hz, xz⟩ := h
  exact ⟨b.trans (hb.mono b.size), (hb.block _ (Array.getElem?_eq_some_iff.1 x5).1).trans x5, (hb.block _ (Array.getElem?_eq_some_iff.1 xs).1).trans xs, s5.below hb, so.below hb, z, hz, (hb.block _ (Array.getElem?_eq_some_iff.1 xz).1).trans xz⟩
theorem KS.store {w : World} {g4 : Nat} {cs c5 : Array Value} {L K : LSt} {W : World} (h : KS w g4 cs c5 L K W) (hg : w.heap.size + 1 < g4) (ds : Array Value) (hd : ds.size = 17) : KS w g4 cs c5 L K (W.setRow (w.heap.size + 1) ds) := by
  obtain ⟨b, x5, xs, s5, so, z, hz, xz⟩ := h
  exact ⟨below_setRow2 b (Nat.le_succ _) _, (setRow_other _ _ _ _ (by omega)).trans x5, (setRow_other _ _ _ _ (by omega)).trans xs, s5.keep (by simp) fun b hb _ => setRow_other _ _ _ _ (by omega), so.keep (by simp) fun b hb _ => setRow_other _ _ _ _ hb, ds, hd, setRow_heap _ _ _ _ _ _ xz⟩
set_option maxRecDepth 100000 in
set_option maxHeartbeats 3200000 in
theorem confirm_yes {w : World} {P : Nat → Prop} {cs : Array Value} {L : LSt} (h : IsSt w P cs L) (hm : L.may = true) : Calls Tryd.prog 11 #[.agg cs] w (RetSV L.confirm (.bool (!L.confirm.eqb L)) w) := by
  have HL := Lib.hid (light_of_may hm)
  obtain ⟨hact, _, _⟩ := stMay_act hm
  have sa := h.imp (P' := fun b => b < w.heap.size) fun b hb _ => hb
  have e0 := (((Env.start w).addSt h).alloc cs 30).alloc #[.int .i64 0, .int .i64 0, .int .u32 0, .int .u32 0, .int .u32 0, .int .i64 0, .slice none 0 0, .int .u32 0, .int .i64 0, .slice none 0 0, .bool false, .int .u32 0, .int .u32 0, .int .i64 0, .int .i64 0, .int .i64 0, .slice none 0 0] 30
  rw [show (w.alloc (.cells cs 30)).heap.size = w.heap.size + 1 by simp] at e0
  have E0 := Lib.hid e0
  have HM := Lib.hid hm
  have IN := Lib.hid h.inf
  have SA0 := Lib.hid (sa.below e0.b)
  clear sa e0 h hm
  go_enter Tryd.func11, Tryd.ntmps11
  go_wp2_with ((with_reducible show wpList _ _ _ _ _ _); refine wpList_load_row (o := ⟨some 5, _, _, _, _, _⟩) rfl _ (.tmp 1) rfl (w.heap.size) rfl _ _ _ _ (E0.out.bx _ _ _ (.tail _ (.head _))) Tryd.underlying30 rfl IN.out ?_)
  generalize (w.alloc (.cells cs 30)).alloc (.cells #[.int .i64 0, .int .i64 0, .int .u32 0, .int .u32 0, .int .u32 0, .int .i64 0, .slice none 0 0, .int .u32 0, .int .i64 0, .slice none 0 0, .bool false, .int .u32 0, .int .u32 0, .int .i64 0, .int .i64 0, .int .i64 0, .slice none 0 0] 30) = w0 at *
  refine (mayS (E0.out.st _ _ (.head _))).mono ?_
  rintro e w1 ⟨rfl, hb1⟩
  rw [HM.out]
  have E1 := Lib.hid (E0.out.below hb1)
  have SA1 := Lib.hid (SA0.out.below hb1)
  clear SA0 hb1 E0
  go_wp2_with ((with_reducible show wpList _ _ _ _ _ _); refine wpList_load_row (o := ⟨some 9, _, _, _, _, _⟩) rfl _ (.tmp 1) rfl (w.heap.size) rfl _ _ _ _ (E1.out.bx _ _ _ (.tail _ (.head _))) Tryd.underlying30 rfl IN.out ?_)
  refine (ownS (E1.out.st _ _ (.head _)) HL.out).mono ?_
  rintro e w2 ⟨c1, rfl, S1, hb2⟩
  have E2 := Lib.hid (E1.out.below hb2.out)
  have SA := Lib.hid (SA1.out.below hb2.out)
  clear SA1
  have I1 := Lib.hid S1.out.inf
  have O1 := Lib.hid S1.out.one
  have Z1 : Hid (17 = c1.size) := Lib.hid S1.out.size.symm
  have lw : w.heap.size + 1 < w1.heap.size := (Array.getElem?_eq_some_iff.1 (E1.out.bx _ _ _ (.head _))).1
  have LW : Hid (w.heap.size + 1 < w2.heap.size) := Lib.hid (Nat.lt_of_lt_of_le lw hb2.out.size)
  have S1' := Lib.hid (S1.out.imp (P' := fun b => w.heap.size + 1 < b ∧ b ≠ w2.heap.size) fun b hlt hb => ⟨Nat.lt_of_lt_of_le lw hb, Nat.ne_of_lt hlt⟩)
  have SO' := Lib.hid (SA.out.imp (P' := fun b => b ≠ w2.heap.size ∧ b ≠ w.heap.size + 1) fun b hlt hb => ⟨Nat.ne_of_lt hlt, Nat.ne_of_lt (Nat.lt_of_lt_of_le hb (Nat.le_succ _))⟩)
  have E3 := Lib.hid (E2.out.alloc c1 30)
  have E3o := E3.out
  have f1 := frozen_of_row (w2.alloc (.cells c1 30)) w2.heap.size 1 _ _ (heap_alloc_new _ _)
  have k1 := (cell_of_row (w2.alloc (.cells c1 30)) w2.heap.size 1 _ _ (0, 0) (heap_alloc_new _ _)).trans S1.out.c1
  clear lw hb2 E1 S1
  go_upto_region 5 with ((with_reducible show wpList _ _ _ _ _ _); refine wpList_store_new rfl rfl _ (.tmp 4) (.tmp 10) rfl _ _ c1 _ rfl rfl I1.out Z1.out O1.out ?_)
  clear f1 k1
  have hbA : Below w2.heap.size w2 (w2.alloc (.cells (c1.setIfInBounds 1 (.int .i64 0)) 30)) := (Below.refl _ _).alloc (Nat.le_refl _) _
  have e4 := E2.out.alloc (c1.setIfInBounds 1 (.int .i64 0)) 30
  have X4 := Lib.hid (e4.bx _ _ _ (.head _))
  have X1 := Lib.hid (e4.bx _ _ _ (.tail _ (.tail _ (.head _))))
  have Y4 := Lib.hid (e4.bx _ _ _ (.tail _ (.head _)))
  have S4 := Lib.hid ((S1'.out.below hbA).set1 0)
  have SO := Lib.hid (SO'.out.below hbA)
  have E4 := Lib.hid e4
  have BC : Hid (w.heap.size ≤ w2.heap.size) := Lib.hid (Nat.le_of_lt (Nat.lt_of_succ_lt LW.out))
  have GE : Hid (w.heap.size ≤ w.heap.size + 1) := Lib.hid (Nat.le_succ _)
  clear e4 hbA E3 E3o S1' SO' I1 O1 Z1 E2
  generalize w2.alloc (.cells (c1.setIfInBounds 1 (.int .i64 0)) 30) = w4 at *
  rcases hact with ha | ha
  · have k0 := (cell_of_row _ _ 0 _ _ _ X1.out).trans (E4.out.st _ _ (.head _)).c0
    rw [ha] at k0
    have k2 := (cell_of_row _ _ 2 _ _ _ X1.out).trans (E4.out.st _ _ (.head _)).c2
    have kv := (cell_of_row _ _ 4 _ _ _ X1.out).trans (E4.out.st _ _ (.head _)).c4
    have f2 := frozen_of_row w4 w2.heap.size 2 _ _ X4.out
    have j2 := (cell_of_row w4 w2.heap.size 2 _ _ _ X4.out).trans S4.out.c2
    go_cut [4] (fun s4 wx => s4 = .pointer (some ⟨w2.heap.size, 0, none⟩) ∧ Hid (wx = (w4.setCell ⟨w2.heap.size, 2, none⟩ (.int .u32 ((max L.flo L.v0 : Nat) : Int))).drew))
    case first =>
      go_region
      go_wp2_with fail
      · go_meet
        exact ⟨rfl, Lib.hid (by rw [show max L.flo L.v0 = L.v0 by omega])⟩
      · go_meet
        exact ⟨rfl, Lib.hid (by rw [show max L.flo L.v0 = L.flo by omega])⟩
    case rest =>
      obtain ⟨rfl, hcut⟩ := hcut
      have fin : LSt.confirm L = { L with trial := 0, flo := max L.flo L.v0 } := by unfold LSt.confirm; rw [ha]; rfl
      clear k0 k2 kv f2 j2
      have x5 : wc.heap[w2.heap.size]? = some (.cells ((c1.setIfInBounds 1 (.int .i64 0)).setIfInBounds 2 (.int .u32 ((max L.flo L.v0 : Nat) : Int))) 30 (0, 0)) := by rw [hcut.out, drew_heap]; exact heap_setCell_same w4 w2.heap.size 2 _ _ _ X4.out
      have ko : ∀ b, b ≠ w2.heap.size → wc.heap[b]? = w4.heap[b]? := fun b hb => by rw [hcut.out, drew_heap]; exact heap_setCell_other w4 _ _ _ hb
      have sz : wc.heap.size = w4.heap.size := by rw [hcut.out, drew_heap]; simp
      have s5 : IsSt wc (fun b => w.heap.size + 1 < b ∧ b ≠ w2.heap.size) ((c1.setIfInBounds 1 (.int .i64 0)).setIfInBounds 2 (.int .u32 ((max L.flo L.v0 : Nat) : Int))) { L with trial := 0, flo := max L.flo L.v0 } := (S4.out.set2 (max L.flo L.v0)).keep (by rw [sz]; exact Nat.le_refl _) fun b hb _ => ko b hb.2
      have s0 : IsSt wc (fun b => b ≠ w.heap.size + 1) cs L := (SO.out.keep (by rw [sz]; exact Nat.le_refl _) fun b hb _ => ko b hb.1).imp fun _ _ hb => hb.2
      have b5 : Below w.heap.size w wc := by rw [hcut.out]; exact (E4.out.b.setCell (Nat.le_of_lt (Nat.lt_of_succ_lt LW.out)) _).drew
      rw [← fin] at s5
      obtain ⟨c5, hc5⟩ : ∃ c5, (c1.setIfInBounds 1 (.int .i64 0)).setIfInBounds 2 (.int .u32 ((max L.flo L.v0 : Nat) : Int)) = c5 := ⟨_, rfl⟩
      rw [hc5] at x5 s5
      obtain ⟨g4, hg4⟩ : ∃ g, w2.heap.size = g := ⟨_, rfl⟩
      have kc : KS w g4 cs c5 L L.confirm wc := by
        refine ⟨b5, by rw [← hg4]; exact x5, (ko _ (by have := LW.out; omega)).trans X1.out, s5.imp fun b _ hb => hb.1, s0, #[.int .i64 0, .int .i64 0, .int .u32 0, .int .u32 0, .int .u32 0, .int .i64 0, .slice none 0 0, .int .u32 0, .int .i64 0, .slice none 0 0, .bool false, .int .u32 0, .int .u32 0, .int .i64 0, .int .i64 0, .int .i64 0, .slice none 0 0], rfl, (ko _ (by have := LW.out; omega)).trans Y4.out⟩
      have S5 := Lib.hid s5
      have I5 := Lib.hid s5.inf
      have O5 := Lib.hid s5.one
      have Z5 : Hid (17 = c5.size) := Lib.hid s5.size.symm
      obtain ⟨wC, rfl⟩ : ∃ x : World, x = wc := ⟨_, rfl⟩
      have KC := Lib.hid kc
      have LG : Hid (w.heap.size + 1 < g4) := Lib.hid (hg4 ▸ LW.out)
      clear x5 ko sz s5 s0 b5 kc hc5 fin hcut S4 SO X4 Y4 E4 X1
      rw [hg4]
      go_upto_region 6 with fail
      refine wp_region_noPanic ?_
      refine wp_region_held_drew (S := (fun W => KS w g4 cs c5 L L.confirm W)) (by kernel_rfl) (KC.out.below (Below.refl _ _).drew) (fun hH0 => ?_)
      have hH0 : KS w g4 cs c5 L L.confirm wC.drew := hH0
      generalize wC.drew = wd4000 at *
      refine wpAnyH_take (i := 0) (oi := { dst := some 22, op := Op.load 30 (Operand.tmp 4), type := 30, pos := "boot.go:46", after := #[], guard := none }) (v := .agg c5) rfl (by kernel_rfl) (by kernel_rfl) (by kernel_rfl) (fun _ _ _ h => h) (yields_row (by rfl) _ _ rfl (g4) rfl _ _ _ _ (fun W hW => hW.x5) Tryd.underlying30 rfl I5.out) hH0 ?tkr4001
      try simp only [Act.put, List.setIfInBounds_toArray, List.set_cons_zero, List.set_cons_succ]
      refine wpAnyH_take (i := 1) (oi := { dst := some 23, op := Op.load 30 (Operand.tmp 4), type := 30, pos := "boot.go:46", after := #[], guard := none }) (v := .agg c5) rfl (by kernel_rfl) (by kernel_rfl) (by kernel_rfl) (fun _ _ _ h => h) (yields_row (by rfl) _ _ rfl (g4) rfl _ _ _ _ (fun W hW => hW.x5) Tryd.underlying30 rfl I5.out) hH0 ?tkr4002
      try simp only [Act.put, List.setIfInBounds_toArray, List.set_cons_zero, List.set_cons_succ]
      refine wpAnyH_take (i := 2) (oi := { dst := some 24, op := Op.load 30 (Operand.tmp 1), type := 30, pos := "boot.go:46", after := #[], guard := none }) (v := .agg cs) rfl (by kernel_rfl) (by kernel_rfl) (by kernel_rfl) (fun _ _ _ h => h) (yields_row (by rfl) _ _ rfl (w.heap.size) rfl _ _ _ _ (fun W hW => hW.xs) Tryd.underlying30 rfl IN.out) hH0 ?tkr4003
      try simp only [Act.put, List.setIfInBounds_toArray, List.set_cons_zero, List.set_cons_succ]
      refine wpAnyH_ready (rs := [3]) (by kernel_rfl) (by simp) ?_
      refine AllReadyH.cons (o := { dst := some 25, op := Op.call { callee := Callee.value (Operand.func 10), args := #[Operand.tmp 23, Operand.tmp 24], argTypes := #[30, 30] }, type := 4, pos := "boot.go:46", after := #[{ on := 1, ground := Ground.data }, { on := 2, ground := Ground.data }], guard := none }) rfl (fun K hK => ?_) AllReadyH.nil
      go_simp
      refine (sameS (hH0).s5 (hH0).so).mono ?_
      rintro e' wn4004 ⟨rfl, hb4004⟩
      go_simp
      have hS4004 : KS w g4 cs c5 L L.confirm wn4004 := (hH0).below hb4004
      refine hK.out _ _ hS4004 (fun hH4004 => ?_)
      have hH4004 : KS w g4 cs c5 L L.confirm wn4004 := hH4004
      clear hK K hS4004
      try simp only [Act.put, List.setIfInBounds_toArray, List.set_cons_zero, List.set_cons_succ]
      refine wpAnyH_take (i := 4) (oi := { dst := some 26, op := Op.unOp UnOp.not 4 (Operand.tmp 25), type := 4, pos := "boot.go:46", after := #[{ on := 3, ground := Ground.data }, { on := 5, ground := Ground.gcOnly Departure.lateStores }], guard := none }) (v := ?tkv4005) rfl (by kernel_rfl) (by kernel_rfl) (by kernel_rfl) (fun _ _ _ h => h) (Or.inl ⟨by rfl, ?tky4005⟩) hH4004 ?tkr4005
      case tky4005 => (intro w' hSw; clear hSw; go_simp; try with_reducible rfl)
      try simp only [Act.put, List.setIfInBounds_toArray, List.set_cons_zero, List.set_cons_succ]
      refine wpAnyH_ready (rs := [5]) (by kernel_rfl) (by simp) ?_
      refine AllReadyH.cons (o := { dst := none, op := Op.store 30 (Operand.tmp 2) (Operand.tmp 22), type := 0, pos := "boot.go:46", after := #[{ on := 0, ground := Ground.data }, { on := 3, ground := Ground.chain }, { on := 0, ground := Ground.phase }, { on := 1, ground := Ground.textOnly Departure.lateStores }, { on := 2, ground := Ground.textOnly Departure.lateStores }, { on := 3, ground := Ground.textOnly Departure.lateStoresUnsure }, { on := 4, ground := Ground.textOnly Departure.lateStores }], guard := none }) rfl (fun K hK => ?_) AllReadyH.nil
      rw [if_pos (by rfl)]
      obtain ⟨z4006, zz4006, zx4006⟩ := (hH4004).z
      refine wp_store_row _ _ _ rfl (w.heap.size + 1) c5 rfl rfl _ _ zx4006 I5.out (zz4006.trans Z5.out) O5.out ?_
      have row4006 := Lib.hid (setRow_heap _ _ _ c5 _ _ zx4006)
      have hS4006 : KS w g4 cs c5 L L.confirm (wn4004.setRow (w.heap.size + 1) c5) := ((hH4004).store LG.out c5 Z5.out.symm)
      refine hK.out _ _ hS4006 (fun hH4006 => ?_)
      have hH4006 : KS w g4 cs c5 L L.confirm (wn4004.setRow (w.heap.size + 1) c5) := hH4006
      clear hK K hS4006
      refine wpAnyH_take (i := 6) (oi := { dst := some 3, op := Op.assign (Operand.tmp 26), type := 4, pos := "boot.go:46", after := #[{ on := 4, ground := Ground.data }, { on := 5, ground := Ground.chain }, { on := 0, ground := Ground.phase }, { on := 1, ground := Ground.phase }, { on := 2, ground := Ground.phase }, { on := 3, ground := Ground.phase }, { on := 4, ground := Ground.phase }, { on := 5, ground := Ground.phase }], guard := none }) (v := ?tkv4007) rfl (by kernel_rfl) (by kernel_rfl) (by kernel_rfl) (fun _ _ _ h => h) (Or.inl ⟨by rfl, ?tky4007⟩) hH4006 ?tkr4007
      case tky4007 => (intro w' hSw; clear hSw; go_simp; try with_reducible rfl)
      try simp only [Act.put, List.setIfInBounds_toArray, List.set_cons_zero, List.set_cons_succ]
      refine wpAnyH_done (by kernel_rfl) ?_ _
      refine NoPanic.normal ?_
      have R9 := Lib.hid ((hH4006).s5.imp (P' := fun b => w.heap.size ≤ b) fun b _ hb => by omega)
      have B9 := Lib.hid (hH4006).b
      go_wp2_with fail
      refine bodyPost_ret (results_cell_tmp_row rfl _ _ (w.heap.size + 1) _ _ (0, 0) _ rfl row4006.out Tryd.underlying30 rfl I5.out) rfl ?_
      exact ⟨c5, by simp, R9, B9⟩
  · have k0 := (cell_of_row _ _ 0 _ _ _ X1.out).trans (E4.out.st _ _ (.head _)).c0
    rw [ha] at k0
    have k2 := (cell_of_row _ _ 2 _ _ _ X1.out).trans (E4.out.st _ _ (.head _)).c2
    have kv := (cell_of_row _ _ 7 _ _ _ X1.out).trans (E4.out.st _ _ (.head _)).c7
    have f2 := frozen_of_row w4 w2.heap.size 2 _ _ X4.out
    have j2 := (cell_of_row w4 w2.heap.size 2 _ _ _ X4.out).trans S4.out.c2
    go_cut [4] (fun s4 wx => s4 = .pointer (some ⟨w2.heap.size, 0, none⟩) ∧ Hid (wx = (w4.setCell ⟨w2.heap.size, 2, none⟩ (.int .u32 ((max L.flo L.v1 : Nat) : Int))).drew))
    case first =>
      go_region
      go_wp2_with fail
      · go_meet
        exact ⟨rfl, Lib.hid (by rw [show max L.flo L.v1 = L.v1 by omega])⟩
      · go_meet
        exact ⟨rfl, Lib.hid (by rw [show max L.flo L.v1 = L.flo by omega])⟩
    case rest =>
      obtain ⟨rfl, hcut⟩ := hcut
      have fin : LSt.confirm L = { L with trial := 0, flo := max L.flo L.v1 } := by unfold LSt.confirm; rw [ha]; rfl
      clear k0 k2 kv f2 j2
      have x5 : wc.heap[w2.heap.size]? = some (.cells ((c1.setIfInBounds 1 (.int .i64 0)).setIfInBounds 2 (.int .u32 ((max L.flo L.v1 : Nat) : Int))) 30 (0, 0)) := by rw [hcut.out, drew_heap]; exact heap_setCell_same w4 w2.heap.size 2 _ _ _ X4.out
      have ko : ∀ b, b ≠ w2.heap.size → wc.heap[b]? = w4.heap[b]? := fun b hb => by rw [hcut.out, drew_heap]; exact heap_setCell_other w4 _ _ _ hb
      have sz : wc.heap.size = w4.heap.size := by rw [hcut.out, drew_heap]; simp
      have s5 : IsSt wc (fun b => w.heap.size + 1 < b ∧ b ≠ w2.heap.size) ((c1.setIfInBounds 1 (.int .i64 0)).setIfInBounds 2 (.int .u32 ((max L.flo L.v1 : Nat) : Int))) { L with trial := 0, flo := max L.flo L.v1 } := (S4.out.set2 (max L.flo L.v1)).keep (by rw [sz]; exact Nat.le_refl _) fun b hb _ => ko b hb.2
      have s0 : IsSt wc (fun b => b ≠ w.heap.size + 1) cs L := (SO.out.keep (by rw [sz]; exact Nat.le_refl _) fun b hb _ => ko b hb.1).imp fun _ _ hb => hb.2
      have b5 : Below w.heap.size w wc := by rw [hcut.out]; exact (E4.out.b.setCell (Nat.le_of_lt (Nat.lt_of_succ_lt LW.out)) _).drew
      rw [← fin] at s5
      obtain ⟨c5, hc5⟩ : ∃ c5, (c1.setIfInBounds 1 (.int .i64 0)).setIfInBounds 2 (.int .u32 ((max L.flo L.v1 : Nat) : Int)) = c5 := ⟨_, rfl⟩
      rw [hc5] at x5 s5
      obtain ⟨g4, hg4⟩ : ∃ g, w2.heap.size = g := ⟨_, rfl⟩
      have kc : KS w g4 cs c5 L L.confirm wc := by
        refine ⟨b5, by rw [← hg4]; exact x5, (ko _ (by have := LW.out; omega)).trans X1.out, s5.imp fun b _ hb => hb.1, s0, #[.int .i64 0, .int .i64 0, .int .u32 0, .int .u32 0, .int .u32 0, .int .i64 0, .slice none 0 0, .int .u32 0, .int .i64 0, .slice none 0 0, .bool false, .int .u32 0, .int .u32 0, .int .i64 0, .int .i64 0, .int .i64 0, .slice none 0 0], rfl, (ko _ (by have := LW.out; omega)).trans Y4.out⟩
      have S5 := Lib.hid s5
      have I5 := Lib.hid s5.inf
      have O5 := Lib.hid s5.one
      have Z5 : Hid (17 = c5.size) := Lib.hid s5.size.symm
      obtain ⟨wC, rfl⟩ : ∃ x : World, x = wc := ⟨_, rfl⟩
      have KC := Lib.hid kc
      have LG : Hid (w.heap.size + 1 < g4) := Lib.hid (hg4 ▸ LW.out)
      clear x5 ko sz s5 s0 b5 kc hc5 fin hcut S4 SO X4 Y4 E4 X1
      rw [hg4]
      go_upto_region 6 with fail
      refine wp_region_noPanic ?_
      refine wp_region_held_drew (S := (fun W => KS w g4 cs c5 L L.confirm W)) (by kernel_rfl) (KC.out.below (Below.refl _ _).drew) (fun hH0 => ?_)
      have hH0 : KS w g4 cs c5 L L.confirm wC.drew := hH0
      generalize wC.drew = wd4500 at *
      refine wpAnyH_take (i := 0) (oi := { dst := some 22, op := Op.load 30 (Operand.tmp 4), type := 30, pos := "boot.go:46", after := #[], guard := none }) (v := .agg c5) rfl (by kernel_rfl) (by kernel_rfl) (by kernel_rfl) (fun _ _ _ h => h) (yields_row (by rfl) _ _ rfl (g4) rfl _ _ _ _ (fun W hW => hW.x5) Tryd.underlying30 rfl I5.out) hH0 ?tkr4501
      try simp only [Act.put, List.setIfInBounds_toArray, List.set_cons_zero, List.set_cons_succ]
      refine wpAnyH_take (i := 1) (oi := { dst := some 23, op := Op.load 30 (Operand.tmp 4), type := 30, pos := "boot.go:46", after := #[], guard := none }) (v := .agg c5) rfl (by kernel_rfl) (by kernel_rfl) (by kernel_rfl) (fun _ _ _ h => h) (yields_row (by rfl) _ _ rfl (g4) rfl _ _ _ _ (fun W hW => hW.x5) Tryd.underlying30 rfl I5.out) hH0 ?tkr4502
      try simp only [Act.put, List.setIfInBounds_toArray, List.set_cons_zero, List.set_cons_succ]
      refine wpAnyH_take (i := 2) (oi := { dst := some 24, op := Op.load 30 (Operand.tmp 1), type := 30, pos := "boot.go:46", after := #[], guard := none }) (v := .agg cs) rfl (by kernel_rfl) (by kernel_rfl) (by kernel_rfl) (fun _ _ _ h => h) (yields_row (by rfl) _ _ rfl (w.heap.size) rfl _ _ _ _ (fun W hW => hW.xs) Tryd.underlying30 rfl IN.out) hH0 ?tkr4503
      try simp only [Act.put, List.setIfInBounds_toArray, List.set_cons_zero, List.set_cons_succ]
      refine wpAnyH_ready (rs := [3]) (by kernel_rfl) (by simp) ?_
      refine AllReadyH.cons (o := { dst := some 25, op := Op.call { callee := Callee.value (Operand.func 10), args := #[Operand.tmp 23, Operand.tmp 24], argTypes := #[30, 30] }, type := 4, pos := "boot.go:46", after := #[{ on := 1, ground := Ground.data }, { on := 2, ground := Ground.data }], guard := none }) rfl (fun K hK => ?_) AllReadyH.nil
      go_simp
      refine (sameS (hH0).s5 (hH0).so).mono ?_
      rintro e' wn4504 ⟨rfl, hb4504⟩
      go_simp
      have hS4504 : KS w g4 cs c5 L L.confirm wn4504 := (hH0).below hb4504
      refine hK.out _ _ hS4504 (fun hH4504 => ?_)
      have hH4504 : KS w g4 cs c5 L L.confirm wn4504 := hH4504
      clear hK K hS4504
      try simp only [Act.put, List.setIfInBounds_toArray, List.set_cons_zero, List.set_cons_succ]
      refine wpAnyH_take (i := 4) (oi := { dst := some 26, op := Op.unOp UnOp.not 4 (Operand.tmp 25), type := 4, pos := "boot.go:46", after := #[{ on := 3, ground := Ground.data }, { on := 5, ground := Ground.gcOnly Departure.lateStores }], guard := none }) (v := ?tkv4505) rfl (by kernel_rfl) (by kernel_rfl) (by kernel_rfl) (fun _ _ _ h => h) (Or.inl ⟨by rfl, ?tky4505⟩) hH4504 ?tkr4505
      case tky4505 => (intro w' hSw; clear hSw; go_simp; try with_reducible rfl)
      try simp only [Act.put, List.setIfInBounds_toArray, List.set_cons_zero, List.set_cons_succ]
      refine wpAnyH_ready (rs := [5]) (by kernel_rfl) (by simp) ?_
      refine AllReadyH.cons (o := { dst := none, op := Op.store 30 (Operand.tmp 2) (Operand.tmp 22), type := 0, pos := "boot.go:46", after := #[{ on := 0, ground := Ground.data }, { on := 3, ground := Ground.chain }, { on := 0, ground := Ground.phase }, { on := 1, ground := Ground.textOnly Departure.lateStores }, { on := 2, ground := Ground.textOnly Departure.lateStores }, { on := 3, ground := Ground.textOnly Departure.lateStoresUnsure }, { on := 4, ground := Ground.textOnly Departure.lateStores }], guard := none }) rfl (fun K hK => ?_) AllReadyH.nil
      rw [if_pos (by rfl)]
      obtain ⟨z4506, zz4506, zx4506⟩ := (hH4504).z
      refine wp_store_row _ _ _ rfl (w.heap.size + 1) c5 rfl rfl _ _ zx4506 I5.out (zz4506.trans Z5.out) O5.out ?_
      have row4506 := Lib.hid (setRow_heap _ _ _ c5 _ _ zx4506)
      have hS4506 : KS w g4 cs c5 L L.confirm (wn4504.setRow (w.heap.size + 1) c5) := ((hH4504).store LG.out c5 Z5.out.symm)
      refine hK.out _ _ hS4506 (fun hH4506 => ?_)
      have hH4506 : KS w g4 cs c5 L L.confirm (wn4504.setRow (w.heap.size + 1) c5) := hH4506
      clear hK K hS4506
      refine wpAnyH_take (i := 6) (oi := { dst := some 3, op := Op.assign (Operand.tmp 26), type := 4, pos := "boot.go:46", after := #[{ on := 4, ground := Ground.data }, { on := 5, ground := Ground.chain }, { on := 0, ground := Ground.phase }, { on := 1, ground := Ground.phase }, { on := 2, ground := Ground.phase }, { on := 3, ground := Ground.phase }, { on := 4, ground := Ground.phase }, { on := 5, ground := Ground.phase }], guard := none }) (v := ?tkv4507) rfl (by kernel_rfl) (by kernel_rfl) (by kernel_rfl) (fun _ _ _ h => h) (Or.inl ⟨by rfl, ?tky4507⟩) hH4506 ?tkr4507
      case tky4507 => (intro w' hSw; clear hSw; go_simp; try with_reducible rfl)
      try simp only [Act.put, List.setIfInBounds_toArray, List.set_cons_zero, List.set_cons_succ]
      refine wpAnyH_done (by kernel_rfl) ?_ _
      refine NoPanic.normal ?_
      have R9 := Lib.hid ((hH4506).s5.imp (P' := fun b => w.heap.size ≤ b) fun b _ hb => by omega)
      have B9 := Lib.hid (hH4506).b
      go_wp2_with fail
      refine bodyPost_ret (results_cell_tmp_row rfl _ _ (w.heap.size + 1) _ _ (0, 0) _ rfl row4506.out Tryd.underlying30 rfl I5.out) rfl ?_
      exact ⟨c5, by simp, R9, B9⟩
end Go.Proofs.YtoclckfpbmglfaaDoor
