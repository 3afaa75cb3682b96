/- downpourlaw22.awake: by contract. -/
import Derived.Test.YtdipccjgpkedhaaFirst
import Derived.Test.YtdipccjgpkedhaaAdmitG
import Derived.Test.YtdipccjgpkedhaaAdmitD
import Derived.Test.YtdipccjgpkedhaaAdmitE
namespace Go.Proofs.Ytdipccjgpkedhaa
open Go.RowKit
def AwOk (w : World) (e : Ending) (w' : World) : Prop := e = .returned (.bool true) ∧ Below w.heap.size w w'
theorem aw_may : mayB2 0 0 1 3 n32 0 0 [] false 0 0 0 0 0 [] = true := by decide
theorem aw_man : manB 3 2 0 32 = true := by decide
theorem aw_new : newB (mayB2 0 0 1 3 n32 0 0 [] false 0 0 0 0 0 []) 0 0 1 0 false 0 2 = true := by decide
theorem aw_may2 : mayB2 0 0 1 3 n32 0 0 [] true 1 2 3 2 0 n32 = true := by decide
theorem aw_same : decide ((1 : Nat) = 1 ∧ (2 : Nat) = 2 ∧ (3 : Int) = 3 ∧ (2 : Int) = 2 ∧ (0 : Int) = 0 ∧ n32 = n32) = true := by decide
theorem aw_same1 : decide ((1 : Nat) = 1 ∧ (2 : Nat) = 1 ∧ (3 : Int) = 3 ∧ (2 : Int) = 2 ∧ (0 : Int) = 0 ∧ n32 = n32) = false := by decide
theorem aw_old : newB (mayB2 0 0 1 3 n32 0 0 [] true 1 2 3 2 0 n32) 0 0 1 0 true 2 1 = false := by decide
theorem bx53 {w : World} {g : Nat} {t : TypeId} {a0 a1 a2 a3 a4 a5 a6 a7 a8 a9 a10 a11 a12 a13 a14 a15 a16 : Value} (h : w.heap[g]? = some (.cells #[a0, a1, a2, a3, a4, a5, a6, a7, a8, a9, a10, a11, a12, a13, a14, a15, a16] t (0, 0))) : w.cell? ⟨g, 10, none⟩ = some a10 ∧ w.cell? ⟨g, 3, none⟩ = some a3 := by
  refine ⟨?_, ?_⟩ <;> rw [cell_of_row w g _ _ t (0, 0) h] <;> rfl
set_option maxRecDepth 100000 in
set_option maxHeartbeats 1600000 in
theorem awake22_any (w : World) : Calls Try.prog 15 #[] w (AwOk w) := by
  go_enter Try.func15, Try.ntmps15
  go_wp2_with fail
  refine (first_any w).mono ?_
  rintro e w1 ⟨A, c, rfl, R0, HB1⟩
  go_wp2_with fail
  refine (good_any 2 w1).mono ?_
  rintro e w2 ⟨A2, c2, rfl, R2, hb2⟩
  have HB2 : Hid (Below w.heap.size w w2) := HB1.out.trans (hb2.out.mono HB1.out.size)
  go_wp2_with fail
  refine (admit_gf 0 0 0 1 3 A 32 c 0 0 none 0 0 0 0 0 0 0 none 0 0 w2.heap.size n32 [] [] 1 2 3 2 0 A2 32 c2 n32 w2 aw_may aw_man rfl (by omega) (by omega) (by omega) aw_new (by omega) ((R0.out.row.below hb2.out).more hb2.out.size) (Row.nil _ _ _) (Row.nil _ _ _) R2.out.row (Nat.le_refl _)).mono ?_
  rintro e w3 ⟨D0, k0, D1, k1, D, kd, rfl, P0, P1, P2, hb3⟩
  have HB3 : Hid (Below w.heap.size w w3) := HB2.out.trans (hb3.out.mono HB2.out.size)
  clear R0 R2 hb2 hb3 HB1 HB2
  go_upto_region 2 with fail
  -- REGION
  have hbA : Below w3.heap.size w3 (w3.alloc (.cells #[.int .i64 0, .int .i64 0, .int .u32 0, .int .u32 1, .int .u32 1, .int .i64 3, .slice D0 32 k0, .int .u32 0, .int .i64 0, .slice D1 0 k1, .bool true, .int .u32 1, .int .u32 2, .int .i64 3, .int .i64 2, .int .i64 0, .slice D 32 kd] 30)) := (Below.refl _ _).alloc (Nat.le_refl _) _
  have TA := Lib.hid (heap_alloc_new w3 (.cells #[.int .i64 0, .int .i64 0, .int .u32 0, .int .u32 1, .int .u32 1, .int .i64 3, .slice D0 32 k0, .int .u32 0, .int .i64 0, .slice D1 0 k1, .bool true, .int .u32 1, .int .u32 2, .int .i64 3, .int .i64 2, .int .i64 0, .slice D 32 kd] 30))
  have LA : Hid (w3.heap.size < (w3.alloc (.cells #[.int .i64 0, .int .i64 0, .int .u32 0, .int .u32 1, .int .u32 1, .int .i64 3, .slice D0 32 k0, .int .u32 0, .int .i64 0, .slice D1 0 k1, .bool true, .int .u32 1, .int .u32 2, .int .i64 3, .int .i64 2, .int .i64 0, .slice D 32 kd] 30)).heap.size) := Lib.hid (by simp)
  have RA0 := Lib.hid ((P0.out.row.below hbA).more hbA.size)
  have RAD := Lib.hid ((P2.out.row.below hbA).more hbA.size)
  have HBA : Hid (Below w.heap.size w (w3.alloc (.cells #[.int .i64 0, .int .i64 0, .int .u32 0, .int .u32 1, .int .u32 1, .int .i64 3, .slice D0 32 k0, .int .u32 0, .int .i64 0, .slice D1 0 k1, .bool true, .int .u32 1, .int .u32 2, .int .i64 3, .int .i64 2, .int .i64 0, .slice D 32 kd] 30))) := Lib.hid (HB3.out.trans (hbA.mono HB3.out.size))
  clear hbA P0 P1 P2 HB3
  generalize (w3.alloc (.cells #[.int .i64 0, .int .i64 0, .int .u32 0, .int .u32 1, .int .u32 1, .int .i64 3, .slice D0 32 k0, .int .u32 0, .int .i64 0, .slice D1 0 k1, .bool true, .int .u32 1, .int .u32 2, .int .i64 3, .int .i64 2, .int .i64 0, .slice D 32 kd] 30)) = wA at *
  go_cut [4] (fun s4 wx => s4 = .int .i64 8 ∧ Hid (Below wA.heap.size wA wx))
  case first =>
    refine wp_region_noPanic ?_
    refine wp_region_held_drew (S := (fun W => Below wA.heap.size wA W)) (by kernel_rfl) (Below.refl _ _).drew (fun hH0 => ?_)
    have hH0 : (fun W => Below wA.heap.size wA W) wA.drew := hH0
    generalize wA.drew = wd at *
    refine wpAnyH_ready (rs := [0, 1, 6]) (by kernel_rfl) (by simp) ?_
    refine AllReadyH.cons (o := { dst := some 14, op := Op.load 30 (Operand.tmp 1), type := 30, pos := "law.go:21", after := #[], guard := none }) rfl (fun K hK => ?_) (AllReadyH.cons (o := { dst := some 15, op := Op.call { callee := Callee.value (Operand.func 42), args := #[Operand.const (Value.int IntKind.u32 2)], argTypes := #[22] }, type := 28, pos := "law.go:21", after := #[], guard := none }) rfl (fun K hK => ?_) (AllReadyH.cons (o := { dst := some 3, op := Op.alloc 30, type := 0, pos := "law.go:21", after := #[], guard := none }) rfl (fun K hK => ?_) AllReadyH.nil))
    · rw [if_pos (by rfl)]
      have tb1001 := ((hH0).block w3.heap.size LA.out).trans TA.out
      refine wp_load_row _ _ rfl w3.heap.size rfl _ _ _ _ tb1001 Try.underlying30 rfl (by kernel_rfl) ?_
      clear tb1001
      have hS1001 : (fun W => Below wA.heap.size wA W) wd := hH0
      refine hK.out _ _ hS1001 (fun hH1001 => ?_)
      clear hK K
      try simp only [Act.put, List.setIfInBounds_toArray, List.set_cons_zero, List.set_cons_succ]
      refine wpAnyH_ready (rs := [1, 6]) (by kernel_rfl) (by simp) ?_
      refine AllReadyH.cons (o := { dst := some 15, op := Op.call { callee := Callee.value (Operand.func 42), args := #[Operand.const (Value.int IntKind.u32 2)], argTypes := #[22] }, type := 28, pos := "law.go:21", after := #[], guard := none }) rfl (fun K hK => ?_) (AllReadyH.cons (o := { dst := some 3, op := Op.alloc 30, type := 0, pos := "law.go:21", after := #[], guard := none }) rfl (fun K hK => ?_) AllReadyH.nil)
      · go_simp
        refine (good_any 2 wd).mono ?_
        rintro e' wg1002 ⟨Ag1002, cg1002, rfl, Rg1002, hbg1002⟩
        have hb1002 := hbg1002.out
        clear hbg1002
        have hr1002 := Lib.hid Rg1002.out.row
        clear Rg1002
        go_simp
        have hS1002 : (fun W => Below wA.heap.size wA W) wg1002 := (hH1001).trans (hb1002.mono (hH1001).size)
        refine hK.out _ _ hS1002 (fun hH1002 => ?_)
        clear hK K
        try simp only [Act.put, List.setIfInBounds_toArray, List.set_cons_zero, List.set_cons_succ]
        refine wpAnyH_ready (rs := [2, 6]) (by kernel_rfl) (by simp) ?_
        refine AllReadyH.cons (o := { dst := some 16, op := Op.call { callee := Callee.value (Operand.func 16), args := #[Operand.tmp 14, Operand.tmp 15], argTypes := #[30, 28] }, type := 40, pos := "law.go:21", after := #[{ on := 0, ground := Ground.data }, { on := 1, ground := Ground.data }, { on := 1, ground := Ground.chain }], guard := none }) rfl (fun K hK => ?_) (AllReadyH.cons (o := { dst := some 3, op := Op.alloc 30, type := 0, pos := "law.go:21", after := #[], guard := none }) rfl (fun K hK => ?_) AllReadyH.nil)
        · go_simp
          refine (admit_d 0 0 1 1 3 D0 32 k0 0 0 D1 0 k1 1 2 3 2 0 D 32 kd wg1002.heap.size n32 [] n32 1 2 3 2 0 Ag1002 32 cg1002 n32 wg1002 aw_may2 aw_man aw_same ((RA0.out.below (hH1002)).more (hH1002).size) (Row.nil _ _ _) ((RAD.out.below (hH1002)).more (hH1002).size) hr1002.out (Nat.le_refl _)).mono ?_
          rintro e' wm1003 ⟨rfl, hb1003⟩
          go_simp
          have hS1003 : (fun W => Below wA.heap.size wA W) wm1003 := (hH1002).trans (hb1003.mono (hH1002).size)
          refine hK.out _ _ hS1003 (fun hH1003 => ?_)
          clear hK K
          try simp only [Act.put, List.setIfInBounds_toArray, List.set_cons_zero, List.set_cons_succ]
          refine wpAnyH_take (i := 3) (oi := { dst := some 13, op := Op.move (Operand.tmp 16), type := 40, pos := "law.go:21", after := #[{ on := 2, ground := Ground.data }], guard := none }) (v := ?tkv1004) rfl (by kernel_rfl) (by kernel_rfl) (by kernel_rfl) (fun _ _ _ h => h) (Or.inl ⟨by rfl, ?tky1004⟩) hH1003 ?tkr1004
          case tky1004 => (intro w' hSw; clear hSw; go_simp; try with_reducible rfl)
          try simp only [Act.put, List.setIfInBounds_toArray, List.set_cons_zero, List.set_cons_succ]
          refine wpAnyH_take (i := 4) (oi := { dst := some 17, op := Op.extract (Operand.tmp 13) 0, type := 30, pos := "law.go:21", after := #[{ on := 3, ground := Ground.data }], guard := none }) (v := ?tkv1005) rfl (by kernel_rfl) (by kernel_rfl) (by kernel_rfl) (fun _ _ _ h => h) (Or.inl ⟨by rfl, ?tky1005⟩) hH1003 ?tkr1005
          case tky1005 => (intro w' hSw; clear hSw; go_simp; try with_reducible rfl)
          try simp only [Act.put, List.setIfInBounds_toArray, List.set_cons_zero, List.set_cons_succ]
          refine wpAnyH_take (i := 5) (oi := { dst := some 18, op := Op.extract (Operand.tmp 13) 1, type := 33, pos := "law.go:21", after := #[{ on := 3, ground := Ground.data }, { on := 7, ground := Ground.gcOnly Departure.lateStores }], guard := none }) (v := ?tkv1006) rfl (by kernel_rfl) (by kernel_rfl) (by kernel_rfl) (fun _ _ _ h => h) (Or.inl ⟨by rfl, ?tky1006⟩) hH1003 ?tkr1006
          case tky1006 => (intro w' hSw; clear hSw; go_simp; try with_reducible rfl)
          try simp only [Act.put, List.setIfInBounds_toArray, List.set_cons_zero, List.set_cons_succ]
          refine wpAnyH_ready (rs := [6]) (by kernel_rfl) (by simp) ?_
          refine AllReadyH.cons (o := { dst := some 3, op := Op.alloc 30, type := 0, pos := "law.go:21", after := #[], guard := none }) rfl (fun K hK => ?_) AllReadyH.nil
          go_simp
          have hb1007 : Below wm1003.heap.size wm1003 (wm1003.alloc (.cells #[.int .i64 0, .int .i64 0, .int .u32 0, .int .u32 0, .int .u32 0, .int .i64 0, .slice none 0 0, .int .u32 0, .int .i64 0, .slice none 0 0, .bool false, .int .u32 0, .int .u32 0, .int .i64 0, .int .i64 0, .int .i64 0, .slice none 0 0] 30)) := (Below.refl _ _).alloc (Nat.le_refl _) _
          have hx1007 : Hid ((wm1003.alloc (.cells #[.int .i64 0, .int .i64 0, .int .u32 0, .int .u32 0, .int .u32 0, .int .i64 0, .slice none 0 0, .int .u32 0, .int .i64 0, .slice none 0 0, .bool false, .int .u32 0, .int .u32 0, .int .i64 0, .int .i64 0, .int .i64 0, .slice none 0 0] 30)).heap[wm1003.heap.size]? = some (.cells #[.int .i64 0, .int .i64 0, .int .u32 0, .int .u32 0, .int .u32 0, .int .i64 0, .slice none 0 0, .int .u32 0, .int .i64 0, .slice none 0 0, .bool false, .int .u32 0, .int .u32 0, .int .i64 0, .int .i64 0, .int .i64 0, .slice none 0 0] 30 (0, 0))) := Lib.hid (heap_alloc_new _ _)
          have hl1007 : Hid (wm1003.heap.size < (wm1003.alloc (.cells #[.int .i64 0, .int .i64 0, .int .u32 0, .int .u32 0, .int .u32 0, .int .i64 0, .slice none 0 0, .int .u32 0, .int .i64 0, .slice none 0 0, .bool false, .int .u32 0, .int .u32 0, .int .i64 0, .int .i64 0, .int .i64 0, .slice none 0 0] 30)).heap.size) := Lib.hid (by simp)
          have hg1007 : Hid (wA.heap.size ≤ wm1003.heap.size) := Lib.hid (hH1003).size
          generalize (wm1003.alloc (.cells #[.int .i64 0, .int .i64 0, .int .u32 0, .int .u32 0, .int .u32 0, .int .i64 0, .slice none 0 0, .int .u32 0, .int .i64 0, .slice none 0 0, .bool false, .int .u32 0, .int .u32 0, .int .i64 0, .int .i64 0, .int .i64 0, .slice none 0 0] 30)) = wz1007 at *
          have hS1007 : (fun W => Below wA.heap.size wA W) wz1007 := (hH1003).trans (hb1007.mono (hH1003).size)
          refine hK.out _ _ hS1007 (fun hH1007 => ?_)
          clear hK K
          try simp only [Act.put, List.setIfInBounds_toArray, List.set_cons_zero, List.set_cons_succ]
          refine wpAnyH_ready (rs := [7]) (by kernel_rfl) (by simp) ?_
          refine AllReadyH.cons (o := { dst := none, op := Op.store 30 (Operand.tmp 3) (Operand.tmp 17), type := 0, pos := "law.go:21", after := #[{ on := 6, ground := Ground.data }, { on := 4, ground := Ground.data }, { on := 2, ground := Ground.chain }, { on := 0, ground := Ground.phase }, { on := 1, ground := Ground.phase }, { on := 2, ground := Ground.phase }, { on := 3, ground := Ground.phase }, { on := 4, ground := Ground.phase }, { on := 5, ground := Ground.textOnly Departure.lateStores }, { on := 6, ground := Ground.phase }], guard := none }) rfl (fun K hK => ?_) AllReadyH.nil
          rw [if_pos (by rfl)]
          refine wp_store_row _ _ _ rfl wm1003.heap.size zState rfl rfl _ _ hx1007.out (by kernel_rfl) (by rfl) (by kernel_rfl) ?_
          have hS1008 : (fun W => Below wA.heap.size wA W) (wz1007.setRow wm1003.heap.size zState) := (below_setRow2 (hH1007) hg1007.out _)
          refine hK.out _ _ hS1008 (fun hH1008 => ?_)
          clear hK K
          try simp only [Act.put]
          refine wpAnyH_take (i := 8) (oi := { dst := some 4, op := Op.assign (Operand.tmp 18), type := 33, pos := "law.go:21", after := #[{ on := 5, ground := Ground.data }, { on := 7, ground := Ground.chain }, { on := 0, ground := Ground.phase }, { on := 1, ground := Ground.phase }, { on := 2, ground := Ground.phase }, { on := 3, ground := Ground.phase }, { on := 4, ground := Ground.phase }, { on := 5, ground := Ground.phase }, { on := 6, ground := Ground.phase }, { on := 7, ground := Ground.phase }], guard := none }) (v := ?tkv1009) rfl (by kernel_rfl) (by kernel_rfl) (by kernel_rfl) (fun _ _ _ h => h) (Or.inl ⟨by rfl, ?tky1009⟩) hH1008 ?tkr1009
          case tky1009 => (intro w' hSw; clear hSw; go_simp; try with_reducible rfl)
          try simp only [Act.put, List.setIfInBounds_toArray, List.set_cons_zero, List.set_cons_succ]
          refine wpAnyH_done (by kernel_rfl) ?_ _
          refine NoPanic.normal ?_
          go_wp2_with fail
          go_meet
          exact ⟨rfl, Lib.hid (hH1008)⟩
        · go_simp
          have hb1010 : Below wg1002.heap.size wg1002 (wg1002.alloc (.cells #[.int .i64 0, .int .i64 0, .int .u32 0, .int .u32 0, .int .u32 0, .int .i64 0, .slice none 0 0, .int .u32 0, .int .i64 0, .slice none 0 0, .bool false, .int .u32 0, .int .u32 0, .int .i64 0, .int .i64 0, .int .i64 0, .slice none 0 0] 30)) := (Below.refl _ _).alloc (Nat.le_refl _) _
          have hx1010 : Hid ((wg1002.alloc (.cells #[.int .i64 0, .int .i64 0, .int .u32 0, .int .u32 0, .int .u32 0, .int .i64 0, .slice none 0 0, .int .u32 0, .int .i64 0, .slice none 0 0, .bool false, .int .u32 0, .int .u32 0, .int .i64 0, .int .i64 0, .int .i64 0, .slice none 0 0] 30)).heap[wg1002.heap.size]? = some (.cells #[.int .i64 0, .int .i64 0, .int .u32 0, .int .u32 0, .int .u32 0, .int .i64 0, .slice none 0 0, .int .u32 0, .int .i64 0, .slice none 0 0, .bool false, .int .u32 0, .int .u32 0, .int .i64 0, .int .i64 0, .int .i64 0, .slice none 0 0] 30 (0, 0))) := Lib.hid (heap_alloc_new _ _)
          have hl1010 : Hid (wg1002.heap.size < (wg1002.alloc (.cells #[.int .i64 0, .int .i64 0, .int .u32 0, .int .u32 0, .int .u32 0, .int .i64 0, .slice none 0 0, .int .u32 0, .int .i64 0, .slice none 0 0, .bool false, .int .u32 0, .int .u32 0, .int .i64 0, .int .i64 0, .int .i64 0, .slice none 0 0] 30)).heap.size) := Lib.hid (by simp)
          have hg1010 : Hid (wA.heap.size ≤ wg1002.heap.size) := Lib.hid (hH1002).size
          have hr1010 := Lib.hid ((hr1002.out.below hb1010).more hb1010.size)
          generalize (wg1002.alloc (.cells #[.int .i64 0, .int .i64 0, .int .u32 0, .int .u32 0, .int .u32 0, .int .i64 0, .slice none 0 0, .int .u32 0, .int .i64 0, .slice none 0 0, .bool false, .int .u32 0, .int .u32 0, .int .i64 0, .int .i64 0, .int .i64 0, .slice none 0 0] 30)) = wz1010 at *
          have hS1010 : (fun W => Below wA.heap.size wA W) wz1010 := (hH1002).trans (hb1010.mono (hH1002).size)
          refine hK.out _ _ hS1010 (fun hH1010 => ?_)
          clear hK K
          try simp only [Act.put, List.setIfInBounds_toArray, List.set_cons_zero, List.set_cons_succ]
          refine wpAnyH_ready (rs := [2]) (by kernel_rfl) (by simp) ?_
          refine AllReadyH.cons (o := { dst := some 16, op := Op.call { callee := Callee.value (Operand.func 16), args := #[Operand.tmp 14, Operand.tmp 15], argTypes := #[30, 28] }, type := 40, pos := "law.go:21", after := #[{ on := 0, ground := Ground.data }, { on := 1, ground := Ground.data }, { on := 1, ground := Ground.chain }], guard := none }) rfl (fun K hK => ?_) AllReadyH.nil
          go_simp
          refine (admit_d 0 0 1 1 3 D0 32 k0 0 0 D1 0 k1 1 2 3 2 0 D 32 kd wz1010.heap.size n32 [] n32 1 2 3 2 0 Ag1002 32 cg1002 n32 wz1010 aw_may2 aw_man aw_same ((RA0.out.below (hH1010)).more (hH1010).size) (Row.nil _ _ _) ((RAD.out.below (hH1010)).more (hH1010).size) hr1010.out (Nat.le_refl _)).mono ?_
          rintro e' wm1011 ⟨rfl, hb1011⟩
          have hx1011 := Lib.hid ((hb1011.block wg1002.heap.size hl1010.out).trans hx1010.out)
          have hl1011 := Lib.hid (Nat.lt_of_lt_of_le hl1010.out hb1011.size)
          go_simp
          have hS1011 : (fun W => Below wA.heap.size wA W) wm1011 := (hH1010).trans (hb1011.mono (hH1010).size)
          refine hK.out _ _ hS1011 (fun hH1011 => ?_)
          clear hK K
          try simp only [Act.put, List.setIfInBounds_toArray, List.set_cons_zero, List.set_cons_succ]
          refine wpAnyH_take (i := 3) (oi := { dst := some 13, op := Op.move (Operand.tmp 16), type := 40, pos := "law.go:21", after := #[{ on := 2, ground := Ground.data }], guard := none }) (v := ?tkv1012) rfl (by kernel_rfl) (by kernel_rfl) (by kernel_rfl) (fun _ _ _ h => h) (Or.inl ⟨by rfl, ?tky1012⟩) hH1011 ?tkr1012
          case tky1012 => (intro w' hSw; clear hSw; go_simp; try with_reducible rfl)
          try simp only [Act.put, List.setIfInBounds_toArray, List.set_cons_zero, List.set_cons_succ]
          refine wpAnyH_take (i := 4) (oi := { dst := some 17, op := Op.extract (Operand.tmp 13) 0, type := 30, pos := "law.go:21", after := #[{ on := 3, ground := Ground.data }], guard := none }) (v := ?tkv1013) rfl (by kernel_rfl) (by kernel_rfl) (by kernel_rfl) (fun _ _ _ h => h) (Or.inl ⟨by rfl, ?tky1013⟩) hH1011 ?tkr1013
          case tky1013 => (intro w' hSw; clear hSw; go_simp; try with_reducible rfl)
          try simp only [Act.put, List.setIfInBounds_toArray, List.set_cons_zero, List.set_cons_succ]
          refine wpAnyH_take (i := 5) (oi := { dst := some 18, op := Op.extract (Operand.tmp 13) 1, type := 33, pos := "law.go:21", after := #[{ on := 3, ground := Ground.data }, { on := 7, ground := Ground.gcOnly Departure.lateStores }], guard := none }) (v := ?tkv1014) rfl (by kernel_rfl) (by kernel_rfl) (by kernel_rfl) (fun _ _ _ h => h) (Or.inl ⟨by rfl, ?tky1014⟩) hH1011 ?tkr1014
          case tky1014 => (intro w' hSw; clear hSw; go_simp; try with_reducible rfl)
          try simp only [Act.put, List.setIfInBounds_toArray, List.set_cons_zero, List.set_cons_succ]
          refine wpAnyH_ready (rs := [7]) (by kernel_rfl) (by simp) ?_
          refine AllReadyH.cons (o := { dst := none, op := Op.store 30 (Operand.tmp 3) (Operand.tmp 17), type := 0, pos := "law.go:21", after := #[{ on := 6, ground := Ground.data }, { on := 4, ground := Ground.data }, { on := 2, ground := Ground.chain }, { on := 0, ground := Ground.phase }, { on := 1, ground := Ground.phase }, { on := 2, ground := Ground.phase }, { on := 3, ground := Ground.phase }, { on := 4, ground := Ground.phase }, { on := 5, ground := Ground.textOnly Departure.lateStores }, { on := 6, ground := Ground.phase }], guard := none }) rfl (fun K hK => ?_) AllReadyH.nil
          rw [if_pos (by rfl)]
          refine wp_store_row _ _ _ rfl wg1002.heap.size zState rfl rfl _ _ hx1011.out (by kernel_rfl) (by rfl) (by kernel_rfl) ?_
          have hS1015 : (fun W => Below wA.heap.size wA W) (wm1011.setRow wg1002.heap.size zState) := (below_setRow2 (hH1011) hg1010.out _)
          refine hK.out _ _ hS1015 (fun hH1015 => ?_)
          clear hK K
          try simp only [Act.put]
          refine wpAnyH_take (i := 8) (oi := { dst := some 4, op := Op.assign (Operand.tmp 18), type := 33, pos := "law.go:21", after := #[{ on := 5, ground := Ground.data }, { on := 7, ground := Ground.chain }, { on := 0, ground := Ground.phase }, { on := 1, ground := Ground.phase }, { on := 2, ground := Ground.phase }, { on := 3, ground := Ground.phase }, { on := 4, ground := Ground.phase }, { on := 5, ground := Ground.phase }, { on := 6, ground := Ground.phase }, { on := 7, ground := Ground.phase }], guard := none }) (v := ?tkv1016) rfl (by kernel_rfl) (by kernel_rfl) (by kernel_rfl) (fun _ _ _ h => h) (Or.inl ⟨by rfl, ?tky1016⟩) hH1015 ?tkr1016
          case tky1016 => (intro w' hSw; clear hSw; go_simp; try with_reducible rfl)
          try simp only [Act.put, List.setIfInBounds_toArray, List.set_cons_zero, List.set_cons_succ]
          refine wpAnyH_done (by kernel_rfl) ?_ _
          refine NoPanic.normal ?_
          go_wp2_with fail
          go_meet
          exact ⟨rfl, Lib.hid (hH1015)⟩
      · go_simp
        have hb1017 : Below wd.heap.size wd (wd.alloc (.cells #[.int .i64 0, .int .i64 0, .int .u32 0, .int .u32 0, .int .u32 0, .int .i64 0, .slice none 0 0, .int .u32 0, .int .i64 0, .slice none 0 0, .bool false, .int .u32 0, .int .u32 0, .int .i64 0, .int .i64 0, .int .i64 0, .slice none 0 0] 30)) := (Below.refl _ _).alloc (Nat.le_refl _) _
        have hx1017 : Hid ((wd.alloc (.cells #[.int .i64 0, .int .i64 0, .int .u32 0, .int .u32 0, .int .u32 0, .int .i64 0, .slice none 0 0, .int .u32 0, .int .i64 0, .slice none 0 0, .bool false, .int .u32 0, .int .u32 0, .int .i64 0, .int .i64 0, .int .i64 0, .slice none 0 0] 30)).heap[wd.heap.size]? = some (.cells #[.int .i64 0, .int .i64 0, .int .u32 0, .int .u32 0, .int .u32 0, .int .i64 0, .slice none 0 0, .int .u32 0, .int .i64 0, .slice none 0 0, .bool false, .int .u32 0, .int .u32 0, .int .i64 0, .int .i64 0, .int .i64 0, .slice none 0 0] 30 (0, 0))) := Lib.hid (heap_alloc_new _ _)
        have hl1017 : Hid (wd.heap.size < (wd.alloc (.cells #[.int .i64 0, .int .i64 0, .int .u32 0, .int .u32 0, .int .u32 0, .int .i64 0, .slice none 0 0, .int .u32 0, .int .i64 0, .slice none 0 0, .bool false, .int .u32 0, .int .u32 0, .int .i64 0, .int .i64 0, .int .i64 0, .slice none 0 0] 30)).heap.size) := Lib.hid (by simp)
        have hg1017 : Hid (wA.heap.size ≤ wd.heap.size) := Lib.hid (hH1001).size
        generalize (wd.alloc (.cells #[.int .i64 0, .int .i64 0, .int .u32 0, .int .u32 0, .int .u32 0, .int .i64 0, .slice none 0 0, .int .u32 0, .int .i64 0, .slice none 0 0, .bool false, .int .u32 0, .int .u32 0, .int .i64 0, .int .i64 0, .int .i64 0, .slice none 0 0] 30)) = wz1017 at *
        have hS1017 : (fun W => Below wA.heap.size wA W) wz1017 := (hH1001).trans (hb1017.mono (hH1001).size)
        refine hK.out _ _ hS1017 (fun hH1017 => ?_)
        clear hK K
        try simp only [Act.put, List.setIfInBounds_toArray, List.set_cons_zero, List.set_cons_succ]
        refine wpAnyH_ready (rs := [1]) (by kernel_rfl) (by simp) ?_
        refine AllReadyH.cons (o := { dst := some 15, op := Op.call { callee := Callee.value (Operand.func 42), args := #[Operand.const (Value.int IntKind.u32 2)], argTypes := #[22] }, type := 28, pos := "law.go:21", after := #[], guard := none }) rfl (fun K hK => ?_) AllReadyH.nil
        go_simp
        refine (good_any 2 wz1017).mono ?_
        rintro e' wg1018 ⟨Ag1018, cg1018, rfl, Rg1018, hbg1018⟩
        have hb1018 := hbg1018.out
        clear hbg1018
        have hr1018 := Lib.hid Rg1018.out.row
        clear Rg1018
        have hx1018 := Lib.hid ((hb1018.block wd.heap.size hl1017.out).trans hx1017.out)
        have hl1018 := Lib.hid (Nat.lt_of_lt_of_le hl1017.out hb1018.size)
        go_simp
        have hS1018 : (fun W => Below wA.heap.size wA W) wg1018 := (hH1017).trans (hb1018.mono (hH1017).size)
        refine hK.out _ _ hS1018 (fun hH1018 => ?_)
        clear hK K
        try simp only [Act.put, List.setIfInBounds_toArray, List.set_cons_zero, List.set_cons_succ]
        refine wpAnyH_ready (rs := [2]) (by kernel_rfl) (by simp) ?_
        refine AllReadyH.cons (o := { dst := some 16, op := Op.call { callee := Callee.value (Operand.func 16), args := #[Operand.tmp 14, Operand.tmp 15], argTypes := #[30, 28] }, type := 40, pos := "law.go:21", after := #[{ on := 0, ground := Ground.data }, { on := 1, ground := Ground.data }, { on := 1, ground := Ground.chain }], guard := none }) rfl (fun K hK => ?_) AllReadyH.nil
        go_simp
        refine (admit_d 0 0 1 1 3 D0 32 k0 0 0 D1 0 k1 1 2 3 2 0 D 32 kd wg1018.heap.size n32 [] n32 1 2 3 2 0 Ag1018 32 cg1018 n32 wg1018 aw_may2 aw_man aw_same ((RA0.out.below (hH1018)).more (hH1018).size) (Row.nil _ _ _) ((RAD.out.below (hH1018)).more (hH1018).size) hr1018.out (Nat.le_refl _)).mono ?_
        rintro e' wm1019 ⟨rfl, hb1019⟩
        have hx1019 := Lib.hid ((hb1019.block wd.heap.size hl1018.out).trans hx1018.out)
        have hl1019 := Lib.hid (Nat.lt_of_lt_of_le hl1018.out hb1019.size)
        go_simp
        have hS1019 : (fun W => Below wA.heap.size wA W) wm1019 := (hH1018).trans (hb1019.mono (hH1018).size)
        refine hK.out _ _ hS1019 (fun hH1019 => ?_)
        clear hK K
        try simp only [Act.put, List.setIfInBounds_toArray, List.set_cons_zero, List.set_cons_succ]
        refine wpAnyH_take (i := 3) (oi := { dst := some 13, op := Op.move (Operand.tmp 16), type := 40, pos := "law.go:21", after := #[{ on := 2, ground := Ground.data }], guard := none }) (v := ?tkv1020) rfl (by kernel_rfl) (by kernel_rfl) (by kernel_rfl) (fun _ _ _ h => h) (Or.inl ⟨by rfl, ?tky1020⟩) hH1019 ?tkr1020
        case tky1020 => (intro w' hSw; clear hSw; go_simp; try with_reducible rfl)
        try simp only [Act.put, List.setIfInBounds_toArray, List.set_cons_zero, List.set_cons_succ]
        refine wpAnyH_take (i := 4) (oi := { dst := some 17, op := Op.extract (Operand.tmp 13) 0, type := 30, pos := "law.go:21", after := #[{ on := 3, ground := Ground.data }], guard := none }) (v := ?tkv1021) rfl (by kernel_rfl) (by kernel_rfl) (by kernel_rfl) (fun _ _ _ h => h) (Or.inl ⟨by rfl, ?tky1021⟩) hH1019 ?tkr1021
        case tky1021 => (intro w' hSw; clear hSw; go_simp; try with_reducible rfl)
        try simp only [Act.put, List.setIfInBounds_toArray, List.set_cons_zero, List.set_cons_succ]
        refine wpAnyH_take (i := 5) (oi := { dst := some 18, op := Op.extract (Operand.tmp 13) 1, type := 33, pos := "law.go:21", after := #[{ on := 3, ground := Ground.data }, { on := 7, ground := Ground.gcOnly Departure.lateStores }], guard := none }) (v := ?tkv1022) rfl (by kernel_rfl) (by kernel_rfl) (by kernel_rfl) (fun _ _ _ h => h) (Or.inl ⟨by rfl, ?tky1022⟩) hH1019 ?tkr1022
        case tky1022 => (intro w' hSw; clear hSw; go_simp; try with_reducible rfl)
        try simp only [Act.put, List.setIfInBounds_toArray, List.set_cons_zero, List.set_cons_succ]
        refine wpAnyH_ready (rs := [7]) (by kernel_rfl) (by simp) ?_
        refine AllReadyH.cons (o := { dst := none, op := Op.store 30 (Operand.tmp 3) (Operand.tmp 17), type := 0, pos := "law.go:21", after := #[{ on := 6, ground := Ground.data }, { on := 4, ground := Ground.data }, { on := 2, ground := Ground.chain }, { on := 0, ground := Ground.phase }, { on := 1, ground := Ground.phase }, { on := 2, ground := Ground.phase }, { on := 3, ground := Ground.phase }, { on := 4, ground := Ground.phase }, { on := 5, ground := Ground.textOnly Departure.lateStores }, { on := 6, ground := Ground.phase }], guard := none }) rfl (fun K hK => ?_) AllReadyH.nil
        rw [if_pos (by rfl)]
        refine wp_store_row _ _ _ rfl wd.heap.size zState rfl rfl _ _ hx1019.out (by kernel_rfl) (by rfl) (by kernel_rfl) ?_
        have hS1023 : (fun W => Below wA.heap.size wA W) (wm1019.setRow wd.heap.size zState) := (below_setRow2 (hH1019) hg1017.out _)
        refine hK.out _ _ hS1023 (fun hH1023 => ?_)
        clear hK K
        try simp only [Act.put]
        refine wpAnyH_take (i := 8) (oi := { dst := some 4, op := Op.assign (Operand.tmp 18), type := 33, pos := "law.go:21", after := #[{ on := 5, ground := Ground.data }, { on := 7, ground := Ground.chain }, { on := 0, ground := Ground.phase }, { on := 1, ground := Ground.phase }, { on := 2, ground := Ground.phase }, { on := 3, ground := Ground.phase }, { on := 4, ground := Ground.phase }, { on := 5, ground := Ground.phase }, { on := 6, ground := Ground.phase }, { on := 7, ground := Ground.phase }], guard := none }) (v := ?tkv1024) rfl (by kernel_rfl) (by kernel_rfl) (by kernel_rfl) (fun _ _ _ h => h) (Or.inl ⟨by rfl, ?tky1024⟩) hH1023 ?tkr1024
        case tky1024 => (intro w' hSw; clear hSw; go_simp; try with_reducible rfl)
        try simp only [Act.put, List.setIfInBounds_toArray, List.set_cons_zero, List.set_cons_succ]
        refine wpAnyH_done (by kernel_rfl) ?_ _
        refine NoPanic.normal ?_
        go_wp2_with fail
        go_meet
        exact ⟨rfl, Lib.hid (hH1023)⟩
    · go_simp
      refine (good_any 2 wd).mono ?_
      rintro e' wg1025 ⟨Ag1025, cg1025, rfl, Rg1025, hbg1025⟩
      have hb1025 := hbg1025.out
      clear hbg1025
      have hr1025 := Lib.hid Rg1025.out.row
      clear Rg1025
      go_simp
      have hS1025 : (fun W => Below wA.heap.size wA W) wg1025 := (hH0).trans (hb1025.mono (hH0).size)
      refine hK.out _ _ hS1025 (fun hH1025 => ?_)
      clear hK K
      try simp only [Act.put, List.setIfInBounds_toArray, List.set_cons_zero, List.set_cons_succ]
      refine wpAnyH_ready (rs := [0, 6]) (by kernel_rfl) (by simp) ?_
      refine AllReadyH.cons (o := { dst := some 14, op := Op.load 30 (Operand.tmp 1), type := 30, pos := "law.go:21", after := #[], guard := none }) rfl (fun K hK => ?_) (AllReadyH.cons (o := { dst := some 3, op := Op.alloc 30, type := 0, pos := "law.go:21", after := #[], guard := none }) rfl (fun K hK => ?_) AllReadyH.nil)
      · rw [if_pos (by rfl)]
        have tb1026 := ((hH1025).block w3.heap.size LA.out).trans TA.out
        refine wp_load_row _ _ rfl w3.heap.size rfl _ _ _ _ tb1026 Try.underlying30 rfl (by kernel_rfl) ?_
        clear tb1026
        have hS1026 : (fun W => Below wA.heap.size wA W) wg1025 := hH1025
        refine hK.out _ _ hS1026 (fun hH1026 => ?_)
        clear hK K
        try simp only [Act.put, List.setIfInBounds_toArray, List.set_cons_zero, List.set_cons_succ]
        refine wpAnyH_ready (rs := [2, 6]) (by kernel_rfl) (by simp) ?_
        refine AllReadyH.cons (o := { dst := some 16, op := Op.call { callee := Callee.value (Operand.func 16), args := #[Operand.tmp 14, Operand.tmp 15], argTypes := #[30, 28] }, type := 40, pos := "law.go:21", after := #[{ on := 0, ground := Ground.data }, { on := 1, ground := Ground.data }, { on := 1, ground := Ground.chain }], guard := none }) rfl (fun K hK => ?_) (AllReadyH.cons (o := { dst := some 3, op := Op.alloc 30, type := 0, pos := "law.go:21", after := #[], guard := none }) rfl (fun K hK => ?_) AllReadyH.nil)
        · go_simp
          refine (admit_d 0 0 1 1 3 D0 32 k0 0 0 D1 0 k1 1 2 3 2 0 D 32 kd wg1025.heap.size n32 [] n32 1 2 3 2 0 Ag1025 32 cg1025 n32 wg1025 aw_may2 aw_man aw_same ((RA0.out.below (hH1026)).more (hH1026).size) (Row.nil _ _ _) ((RAD.out.below (hH1026)).more (hH1026).size) hr1025.out (Nat.le_refl _)).mono ?_
          rintro e' wm1027 ⟨rfl, hb1027⟩
          go_simp
          have hS1027 : (fun W => Below wA.heap.size wA W) wm1027 := (hH1026).trans (hb1027.mono (hH1026).size)
          refine hK.out _ _ hS1027 (fun hH1027 => ?_)
          clear hK K
          try simp only [Act.put, List.setIfInBounds_toArray, List.set_cons_zero, List.set_cons_succ]
          refine wpAnyH_take (i := 3) (oi := { dst := some 13, op := Op.move (Operand.tmp 16), type := 40, pos := "law.go:21", after := #[{ on := 2, ground := Ground.data }], guard := none }) (v := ?tkv1028) rfl (by kernel_rfl) (by kernel_rfl) (by kernel_rfl) (fun _ _ _ h => h) (Or.inl ⟨by rfl, ?tky1028⟩) hH1027 ?tkr1028
          case tky1028 => (intro w' hSw; clear hSw; go_simp; try with_reducible rfl)
          try simp only [Act.put, List.setIfInBounds_toArray, List.set_cons_zero, List.set_cons_succ]
          refine wpAnyH_take (i := 4) (oi := { dst := some 17, op := Op.extract (Operand.tmp 13) 0, type := 30, pos := "law.go:21", after := #[{ on := 3, ground := Ground.data }], guard := none }) (v := ?tkv1029) rfl (by kernel_rfl) (by kernel_rfl) (by kernel_rfl) (fun _ _ _ h => h) (Or.inl ⟨by rfl, ?tky1029⟩) hH1027 ?tkr1029
          case tky1029 => (intro w' hSw; clear hSw; go_simp; try with_reducible rfl)
          try simp only [Act.put, List.setIfInBounds_toArray, List.set_cons_zero, List.set_cons_succ]
          refine wpAnyH_take (i := 5) (oi := { dst := some 18, op := Op.extract (Operand.tmp 13) 1, type := 33, pos := "law.go:21", after := #[{ on := 3, ground := Ground.data }, { on := 7, ground := Ground.gcOnly Departure.lateStores }], guard := none }) (v := ?tkv1030) rfl (by kernel_rfl) (by kernel_rfl) (by kernel_rfl) (fun _ _ _ h => h) (Or.inl ⟨by rfl, ?tky1030⟩) hH1027 ?tkr1030
          case tky1030 => (intro w' hSw; clear hSw; go_simp; try with_reducible rfl)
          try simp only [Act.put, List.setIfInBounds_toArray, List.set_cons_zero, List.set_cons_succ]
          refine wpAnyH_ready (rs := [6]) (by kernel_rfl) (by simp) ?_
          refine AllReadyH.cons (o := { dst := some 3, op := Op.alloc 30, type := 0, pos := "law.go:21", after := #[], guard := none }) rfl (fun K hK => ?_) AllReadyH.nil
          go_simp
          have hb1031 : Below wm1027.heap.size wm1027 (wm1027.alloc (.cells #[.int .i64 0, .int .i64 0, .int .u32 0, .int .u32 0, .int .u32 0, .int .i64 0, .slice none 0 0, .int .u32 0, .int .i64 0, .slice none 0 0, .bool false, .int .u32 0, .int .u32 0, .int .i64 0, .int .i64 0, .int .i64 0, .slice none 0 0] 30)) := (Below.refl _ _).alloc (Nat.le_refl _) _
          have hx1031 : Hid ((wm1027.alloc (.cells #[.int .i64 0, .int .i64 0, .int .u32 0, .int .u32 0, .int .u32 0, .int .i64 0, .slice none 0 0, .int .u32 0, .int .i64 0, .slice none 0 0, .bool false, .int .u32 0, .int .u32 0, .int .i64 0, .int .i64 0, .int .i64 0, .slice none 0 0] 30)).heap[wm1027.heap.size]? = some (.cells #[.int .i64 0, .int .i64 0, .int .u32 0, .int .u32 0, .int .u32 0, .int .i64 0, .slice none 0 0, .int .u32 0, .int .i64 0, .slice none 0 0, .bool false, .int .u32 0, .int .u32 0, .int .i64 0, .int .i64 0, .int .i64 0, .slice none 0 0] 30 (0, 0))) := Lib.hid (heap_alloc_new _ _)
          have hl1031 : Hid (wm1027.heap.size < (wm1027.alloc (.cells #[.int .i64 0, .int .i64 0, .int .u32 0, .int .u32 0, .int .u32 0, .int .i64 0, .slice none 0 0, .int .u32 0, .int .i64 0, .slice none 0 0, .bool false, .int .u32 0, .int .u32 0, .int .i64 0, .int .i64 0, .int .i64 0, .slice none 0 0] 30)).heap.size) := Lib.hid (by simp)
          have hg1031 : Hid (wA.heap.size ≤ wm1027.heap.size) := Lib.hid (hH1027).size
          generalize (wm1027.alloc (.cells #[.int .i64 0, .int .i64 0, .int .u32 0, .int .u32 0, .int .u32 0, .int .i64 0, .slice none 0 0, .int .u32 0, .int .i64 0, .slice none 0 0, .bool false, .int .u32 0, .int .u32 0, .int .i64 0, .int .i64 0, .int .i64 0, .slice none 0 0] 30)) = wz1031 at *
          have hS1031 : (fun W => Below wA.heap.size wA W) wz1031 := (hH1027).trans (hb1031.mono (hH1027).size)
          refine hK.out _ _ hS1031 (fun hH1031 => ?_)
          clear hK K
          try simp only [Act.put, List.setIfInBounds_toArray, List.set_cons_zero, List.set_cons_succ]
          refine wpAnyH_ready (rs := [7]) (by kernel_rfl) (by simp) ?_
          refine AllReadyH.cons (o := { dst := none, op := Op.store 30 (Operand.tmp 3) (Operand.tmp 17), type := 0, pos := "law.go:21", after := #[{ on := 6, ground := Ground.data }, { on := 4, ground := Ground.data }, { on := 2, ground := Ground.chain }, { on := 0, ground := Ground.phase }, { on := 1, ground := Ground.phase }, { on := 2, ground := Ground.phase }, { on := 3, ground := Ground.phase }, { on := 4, ground := Ground.phase }, { on := 5, ground := Ground.textOnly Departure.lateStores }, { on := 6, ground := Ground.phase }], guard := none }) rfl (fun K hK => ?_) AllReadyH.nil
          rw [if_pos (by rfl)]
          refine wp_store_row _ _ _ rfl wm1027.heap.size zState rfl rfl _ _ hx1031.out (by kernel_rfl) (by rfl) (by kernel_rfl) ?_
          have hS1032 : (fun W => Below wA.heap.size wA W) (wz1031.setRow wm1027.heap.size zState) := (below_setRow2 (hH1031) hg1031.out _)
          refine hK.out _ _ hS1032 (fun hH1032 => ?_)
          clear hK K
          try simp only [Act.put]
          refine wpAnyH_take (i := 8) (oi := { dst := some 4, op := Op.assign (Operand.tmp 18), type := 33, pos := "law.go:21", after := #[{ on := 5, ground := Ground.data }, { on := 7, ground := Ground.chain }, { on := 0, ground := Ground.phase }, { on := 1, ground := Ground.phase }, { on := 2, ground := Ground.phase }, { on := 3, ground := Ground.phase }, { on := 4, ground := Ground.phase }, { on := 5, ground := Ground.phase }, { on := 6, ground := Ground.phase }, { on := 7, ground := Ground.phase }], guard := none }) (v := ?tkv1033) rfl (by kernel_rfl) (by kernel_rfl) (by kernel_rfl) (fun _ _ _ h => h) (Or.inl ⟨by rfl, ?tky1033⟩) hH1032 ?tkr1033
          case tky1033 => (intro w' hSw; clear hSw; go_simp; try with_reducible rfl)
          try simp only [Act.put, List.setIfInBounds_toArray, List.set_cons_zero, List.set_cons_succ]
          refine wpAnyH_done (by kernel_rfl) ?_ _
          refine NoPanic.normal ?_
          go_wp2_with fail
          go_meet
          exact ⟨rfl, Lib.hid (hH1032)⟩
        · go_simp
          have hb1034 : Below wg1025.heap.size wg1025 (wg1025.alloc (.cells #[.int .i64 0, .int .i64 0, .int .u32 0, .int .u32 0, .int .u32 0, .int .i64 0, .slice none 0 0, .int .u32 0, .int .i64 0, .slice none 0 0, .bool false, .int .u32 0, .int .u32 0, .int .i64 0, .int .i64 0, .int .i64 0, .slice none 0 0] 30)) := (Below.refl _ _).alloc (Nat.le_refl _) _
          have hx1034 : Hid ((wg1025.alloc (.cells #[.int .i64 0, .int .i64 0, .int .u32 0, .int .u32 0, .int .u32 0, .int .i64 0, .slice none 0 0, .int .u32 0, .int .i64 0, .slice none 0 0, .bool false, .int .u32 0, .int .u32 0, .int .i64 0, .int .i64 0, .int .i64 0, .slice none 0 0] 30)).heap[wg1025.heap.size]? = some (.cells #[.int .i64 0, .int .i64 0, .int .u32 0, .int .u32 0, .int .u32 0, .int .i64 0, .slice none 0 0, .int .u32 0, .int .i64 0, .slice none 0 0, .bool false, .int .u32 0, .int .u32 0, .int .i64 0, .int .i64 0, .int .i64 0, .slice none 0 0] 30 (0, 0))) := Lib.hid (heap_alloc_new _ _)
          have hl1034 : Hid (wg1025.heap.size < (wg1025.alloc (.cells #[.int .i64 0, .int .i64 0, .int .u32 0, .int .u32 0, .int .u32 0, .int .i64 0, .slice none 0 0, .int .u32 0, .int .i64 0, .slice none 0 0, .bool false, .int .u32 0, .int .u32 0, .int .i64 0, .int .i64 0, .int .i64 0, .slice none 0 0] 30)).heap.size) := Lib.hid (by simp)
          have hg1034 : Hid (wA.heap.size ≤ wg1025.heap.size) := Lib.hid (hH1026).size
          have hr1034 := Lib.hid ((hr1025.out.below hb1034).more hb1034.size)
          generalize (wg1025.alloc (.cells #[.int .i64 0, .int .i64 0, .int .u32 0, .int .u32 0, .int .u32 0, .int .i64 0, .slice none 0 0, .int .u32 0, .int .i64 0, .slice none 0 0, .bool false, .int .u32 0, .int .u32 0, .int .i64 0, .int .i64 0, .int .i64 0, .slice none 0 0] 30)) = wz1034 at *
          have hS1034 : (fun W => Below wA.heap.size wA W) wz1034 := (hH1026).trans (hb1034.mono (hH1026).size)
          refine hK.out _ _ hS1034 (fun hH1034 => ?_)
          clear hK K
          try simp only [Act.put, List.setIfInBounds_toArray, List.set_cons_zero, List.set_cons_succ]
          refine wpAnyH_ready (rs := [2]) (by kernel_rfl) (by simp) ?_
          refine AllReadyH.cons (o := { dst := some 16, op := Op.call { callee := Callee.value (Operand.func 16), args := #[Operand.tmp 14, Operand.tmp 15], argTypes := #[30, 28] }, type := 40, pos := "law.go:21", after := #[{ on := 0, ground := Ground.data }, { on := 1, ground := Ground.data }, { on := 1, ground := Ground.chain }], guard := none }) rfl (fun K hK => ?_) AllReadyH.nil
          go_simp
          refine (admit_d 0 0 1 1 3 D0 32 k0 0 0 D1 0 k1 1 2 3 2 0 D 32 kd wz1034.heap.size n32 [] n32 1 2 3 2 0 Ag1025 32 cg1025 n32 wz1034 aw_may2 aw_man aw_same ((RA0.out.below (hH1034)).more (hH1034).size) (Row.nil _ _ _) ((RAD.out.below (hH1034)).more (hH1034).size) hr1034.out (Nat.le_refl _)).mono ?_
          rintro e' wm1035 ⟨rfl, hb1035⟩
          have hx1035 := Lib.hid ((hb1035.block wg1025.heap.size hl1034.out).trans hx1034.out)
          have hl1035 := Lib.hid (Nat.lt_of_lt_of_le hl1034.out hb1035.size)
          go_simp
          have hS1035 : (fun W => Below wA.heap.size wA W) wm1035 := (hH1034).trans (hb1035.mono (hH1034).size)
          refine hK.out _ _ hS1035 (fun hH1035 => ?_)
          clear hK K
          try simp only [Act.put, List.setIfInBounds_toArray, List.set_cons_zero, List.set_cons_succ]
          refine wpAnyH_take (i := 3) (oi := { dst := some 13, op := Op.move (Operand.tmp 16), type := 40, pos := "law.go:21", after := #[{ on := 2, ground := Ground.data }], guard := none }) (v := ?tkv1036) rfl (by kernel_rfl) (by kernel_rfl) (by kernel_rfl) (fun _ _ _ h => h) (Or.inl ⟨by rfl, ?tky1036⟩) hH1035 ?tkr1036
          case tky1036 => (intro w' hSw; clear hSw; go_simp; try with_reducible rfl)
          try simp only [Act.put, List.setIfInBounds_toArray, List.set_cons_zero, List.set_cons_succ]
          refine wpAnyH_take (i := 4) (oi := { dst := some 17, op := Op.extract (Operand.tmp 13) 0, type := 30, pos := "law.go:21", after := #[{ on := 3, ground := Ground.data }], guard := none }) (v := ?tkv1037) rfl (by kernel_rfl) (by kernel_rfl) (by kernel_rfl) (fun _ _ _ h => h) (Or.inl ⟨by rfl, ?tky1037⟩) hH1035 ?tkr1037
          case tky1037 => (intro w' hSw; clear hSw; go_simp; try with_reducible rfl)
          try simp only [Act.put, List.setIfInBounds_toArray, List.set_cons_zero, List.set_cons_succ]
          refine wpAnyH_take (i := 5) (oi := { dst := some 18, op := Op.extract (Operand.tmp 13) 1, type := 33, pos := "law.go:21", after := #[{ on := 3, ground := Ground.data }, { on := 7, ground := Ground.gcOnly Departure.lateStores }], guard := none }) (v := ?tkv1038) rfl (by kernel_rfl) (by kernel_rfl) (by kernel_rfl) (fun _ _ _ h => h) (Or.inl ⟨by rfl, ?tky1038⟩) hH1035 ?tkr1038
          case tky1038 => (intro w' hSw; clear hSw; go_simp; try with_reducible rfl)
          try simp only [Act.put, List.setIfInBounds_toArray, List.set_cons_zero, List.set_cons_succ]
          refine wpAnyH_ready (rs := [7]) (by kernel_rfl) (by simp) ?_
          refine AllReadyH.cons (o := { dst := none, op := Op.store 30 (Operand.tmp 3) (Operand.tmp 17), type := 0, pos := "law.go:21", after := #[{ on := 6, ground := Ground.data }, { on := 4, ground := Ground.data }, { on := 2, ground := Ground.chain }, { on := 0, ground := Ground.phase }, { on := 1, ground := Ground.phase }, { on := 2, ground := Ground.phase }, { on := 3, ground := Ground.phase }, { on := 4, ground := Ground.phase }, { on := 5, ground := Ground.textOnly Departure.lateStores }, { on := 6, ground := Ground.phase }], guard := none }) rfl (fun K hK => ?_) AllReadyH.nil
          rw [if_pos (by rfl)]
          refine wp_store_row _ _ _ rfl wg1025.heap.size zState rfl rfl _ _ hx1035.out (by kernel_rfl) (by rfl) (by kernel_rfl) ?_
          have hS1039 : (fun W => Below wA.heap.size wA W) (wm1035.setRow wg1025.heap.size zState) := (below_setRow2 (hH1035) hg1034.out _)
          refine hK.out _ _ hS1039 (fun hH1039 => ?_)
          clear hK K
          try simp only [Act.put]
          refine wpAnyH_take (i := 8) (oi := { dst := some 4, op := Op.assign (Operand.tmp 18), type := 33, pos := "law.go:21", after := #[{ on := 5, ground := Ground.data }, { on := 7, ground := Ground.chain }, { on := 0, ground := Ground.phase }, { on := 1, ground := Ground.phase }, { on := 2, ground := Ground.phase }, { on := 3, ground := Ground.phase }, { on := 4, ground := Ground.phase }, { on := 5, ground := Ground.phase }, { on := 6, ground := Ground.phase }, { on := 7, ground := Ground.phase }], guard := none }) (v := ?tkv1040) rfl (by kernel_rfl) (by kernel_rfl) (by kernel_rfl) (fun _ _ _ h => h) (Or.inl ⟨by rfl, ?tky1040⟩) hH1039 ?tkr1040
          case tky1040 => (intro w' hSw; clear hSw; go_simp; try with_reducible rfl)
          try simp only [Act.put, List.setIfInBounds_toArray, List.set_cons_zero, List.set_cons_succ]
          refine wpAnyH_done (by kernel_rfl) ?_ _
          refine NoPanic.normal ?_
          go_wp2_with fail
          go_meet
          exact ⟨rfl, Lib.hid (hH1039)⟩
      · go_simp
        have hb1041 : Below wg1025.heap.size wg1025 (wg1025.alloc (.cells #[.int .i64 0, .int .i64 0, .int .u32 0, .int .u32 0, .int .u32 0, .int .i64 0, .slice none 0 0, .int .u32 0, .int .i64 0, .slice none 0 0, .bool false, .int .u32 0, .int .u32 0, .int .i64 0, .int .i64 0, .int .i64 0, .slice none 0 0] 30)) := (Below.refl _ _).alloc (Nat.le_refl _) _
        have hx1041 : Hid ((wg1025.alloc (.cells #[.int .i64 0, .int .i64 0, .int .u32 0, .int .u32 0, .int .u32 0, .int .i64 0, .slice none 0 0, .int .u32 0, .int .i64 0, .slice none 0 0, .bool false, .int .u32 0, .int .u32 0, .int .i64 0, .int .i64 0, .int .i64 0, .slice none 0 0] 30)).heap[wg1025.heap.size]? = some (.cells #[.int .i64 0, .int .i64 0, .int .u32 0, .int .u32 0, .int .u32 0, .int .i64 0, .slice none 0 0, .int .u32 0, .int .i64 0, .slice none 0 0, .bool false, .int .u32 0, .int .u32 0, .int .i64 0, .int .i64 0, .int .i64 0, .slice none 0 0] 30 (0, 0))) := Lib.hid (heap_alloc_new _ _)
        have hl1041 : Hid (wg1025.heap.size < (wg1025.alloc (.cells #[.int .i64 0, .int .i64 0, .int .u32 0, .int .u32 0, .int .u32 0, .int .i64 0, .slice none 0 0, .int .u32 0, .int .i64 0, .slice none 0 0, .bool false, .int .u32 0, .int .u32 0, .int .i64 0, .int .i64 0, .int .i64 0, .slice none 0 0] 30)).heap.size) := Lib.hid (by simp)
        have hg1041 : Hid (wA.heap.size ≤ wg1025.heap.size) := Lib.hid (hH1025).size
        have hr1041 := Lib.hid ((hr1025.out.below hb1041).more hb1041.size)
        generalize (wg1025.alloc (.cells #[.int .i64 0, .int .i64 0, .int .u32 0, .int .u32 0, .int .u32 0, .int .i64 0, .slice none 0 0, .int .u32 0, .int .i64 0, .slice none 0 0, .bool false, .int .u32 0, .int .u32 0, .int .i64 0, .int .i64 0, .int .i64 0, .slice none 0 0] 30)) = wz1041 at *
        have hS1041 : (fun W => Below wA.heap.size wA W) wz1041 := (hH1025).trans (hb1041.mono (hH1025).size)
        refine hK.out _ _ hS1041 (fun hH1041 => ?_)
        clear hK K
        try simp only [Act.put, List.setIfInBounds_toArray, List.set_cons_zero, List.set_cons_succ]
        refine wpAnyH_ready (rs := [0]) (by kernel_rfl) (by simp) ?_
        refine AllReadyH.cons (o := { dst := some 14, op := Op.load 30 (Operand.tmp 1), type := 30, pos := "law.go:21", after := #[], guard := none }) rfl (fun K hK => ?_) AllReadyH.nil
        rw [if_pos (by rfl)]
        have tb1042 := ((hH1041).block w3.heap.size LA.out).trans TA.out
        refine wp_load_row _ _ rfl w3.heap.size rfl _ _ _ _ tb1042 Try.underlying30 rfl (by kernel_rfl) ?_
        clear tb1042
        have hS1042 : (fun W => Below wA.heap.size wA W) wz1041 := hH1041
        refine hK.out _ _ hS1042 (fun hH1042 => ?_)
        clear hK K
        try simp only [Act.put, List.setIfInBounds_toArray, List.set_cons_zero, List.set_cons_succ]
        refine wpAnyH_ready (rs := [2]) (by kernel_rfl) (by simp) ?_
        refine AllReadyH.cons (o := { dst := some 16, op := Op.call { callee := Callee.value (Operand.func 16), args := #[Operand.tmp 14, Operand.tmp 15], argTypes := #[30, 28] }, type := 40, pos := "law.go:21", after := #[{ on := 0, ground := Ground.data }, { on := 1, ground := Ground.data }, { on := 1, ground := Ground.chain }], guard := none }) rfl (fun K hK => ?_) AllReadyH.nil
        go_simp
        refine (admit_d 0 0 1 1 3 D0 32 k0 0 0 D1 0 k1 1 2 3 2 0 D 32 kd wz1041.heap.size n32 [] n32 1 2 3 2 0 Ag1025 32 cg1025 n32 wz1041 aw_may2 aw_man aw_same ((RA0.out.below (hH1042)).more (hH1042).size) (Row.nil _ _ _) ((RAD.out.below (hH1042)).more (hH1042).size) hr1041.out (Nat.le_refl _)).mono ?_
        rintro e' wm1043 ⟨rfl, hb1043⟩
        have hx1043 := Lib.hid ((hb1043.block wg1025.heap.size hl1041.out).trans hx1041.out)
        have hl1043 := Lib.hid (Nat.lt_of_lt_of_le hl1041.out hb1043.size)
        go_simp
        have hS1043 : (fun W => Below wA.heap.size wA W) wm1043 := (hH1042).trans (hb1043.mono (hH1042).size)
        refine hK.out _ _ hS1043 (fun hH1043 => ?_)
        clear hK K
        try simp only [Act.put, List.setIfInBounds_toArray, List.set_cons_zero, List.set_cons_succ]
        refine wpAnyH_take (i := 3) (oi := { dst := some 13, op := Op.move (Operand.tmp 16), type := 40, pos := "law.go:21", after := #[{ on := 2, ground := Ground.data }], guard := none }) (v := ?tkv1044) rfl (by kernel_rfl) (by kernel_rfl) (by kernel_rfl) (fun _ _ _ h => h) (Or.inl ⟨by rfl, ?tky1044⟩) hH1043 ?tkr1044
        case tky1044 => (intro w' hSw; clear hSw; go_simp; try with_reducible rfl)
        try simp only [Act.put, List.setIfInBounds_toArray, List.set_cons_zero, List.set_cons_succ]
        refine wpAnyH_take (i := 4) (oi := { dst := some 17, op := Op.extract (Operand.tmp 13) 0, type := 30, pos := "law.go:21", after := #[{ on := 3, ground := Ground.data }], guard := none }) (v := ?tkv1045) rfl (by kernel_rfl) (by kernel_rfl) (by kernel_rfl) (fun _ _ _ h => h) (Or.inl ⟨by rfl, ?tky1045⟩) hH1043 ?tkr1045
        case tky1045 => (intro w' hSw; clear hSw; go_simp; try with_reducible rfl)
        try simp only [Act.put, List.setIfInBounds_toArray, List.set_cons_zero, List.set_cons_succ]
        refine wpAnyH_take (i := 5) (oi := { dst := some 18, op := Op.extract (Operand.tmp 13) 1, type := 33, pos := "law.go:21", after := #[{ on := 3, ground := Ground.data }, { on := 7, ground := Ground.gcOnly Departure.lateStores }], guard := none }) (v := ?tkv1046) rfl (by kernel_rfl) (by kernel_rfl) (by kernel_rfl) (fun _ _ _ h => h) (Or.inl ⟨by rfl, ?tky1046⟩) hH1043 ?tkr1046
        case tky1046 => (intro w' hSw; clear hSw; go_simp; try with_reducible rfl)
        try simp only [Act.put, List.setIfInBounds_toArray, List.set_cons_zero, List.set_cons_succ]
        refine wpAnyH_ready (rs := [7]) (by kernel_rfl) (by simp) ?_
        refine AllReadyH.cons (o := { dst := none, op := Op.store 30 (Operand.tmp 3) (Operand.tmp 17), type := 0, pos := "law.go:21", after := #[{ on := 6, ground := Ground.data }, { on := 4, ground := Ground.data }, { on := 2, ground := Ground.chain }, { on := 0, ground := Ground.phase }, { on := 1, ground := Ground.phase }, { on := 2, ground := Ground.phase }, { on := 3, ground := Ground.phase }, { on := 4, ground := Ground.phase }, { on := 5, ground := Ground.textOnly Departure.lateStores }, { on := 6, ground := Ground.phase }], guard := none }) rfl (fun K hK => ?_) AllReadyH.nil
        rw [if_pos (by rfl)]
        refine wp_store_row _ _ _ rfl wg1025.heap.size zState rfl rfl _ _ hx1043.out (by kernel_rfl) (by rfl) (by kernel_rfl) ?_
        have hS1047 : (fun W => Below wA.heap.size wA W) (wm1043.setRow wg1025.heap.size zState) := (below_setRow2 (hH1043) hg1041.out _)
        refine hK.out _ _ hS1047 (fun hH1047 => ?_)
        clear hK K
        try simp only [Act.put]
        refine wpAnyH_take (i := 8) (oi := { dst := some 4, op := Op.assign (Operand.tmp 18), type := 33, pos := "law.go:21", after := #[{ on := 5, ground := Ground.data }, { on := 7, ground := Ground.chain }, { on := 0, ground := Ground.phase }, { on := 1, ground := Ground.phase }, { on := 2, ground := Ground.phase }, { on := 3, ground := Ground.phase }, { on := 4, ground := Ground.phase }, { on := 5, ground := Ground.phase }, { on := 6, ground := Ground.phase }, { on := 7, ground := Ground.phase }], guard := none }) (v := ?tkv1048) rfl (by kernel_rfl) (by kernel_rfl) (by kernel_rfl) (fun _ _ _ h => h) (Or.inl ⟨by rfl, ?tky1048⟩) hH1047 ?tkr1048
        case tky1048 => (intro w' hSw; clear hSw; go_simp; try with_reducible rfl)
        try simp only [Act.put, List.setIfInBounds_toArray, List.set_cons_zero, List.set_cons_succ]
        refine wpAnyH_done (by kernel_rfl) ?_ _
        refine NoPanic.normal ?_
        go_wp2_with fail
        go_meet
        exact ⟨rfl, Lib.hid (hH1047)⟩
    · go_simp
      have hb1049 : Below wd.heap.size wd (wd.alloc (.cells #[.int .i64 0, .int .i64 0, .int .u32 0, .int .u32 0, .int .u32 0, .int .i64 0, .slice none 0 0, .int .u32 0, .int .i64 0, .slice none 0 0, .bool false, .int .u32 0, .int .u32 0, .int .i64 0, .int .i64 0, .int .i64 0, .slice none 0 0] 30)) := (Below.refl _ _).alloc (Nat.le_refl _) _
      have hx1049 : Hid ((wd.alloc (.cells #[.int .i64 0, .int .i64 0, .int .u32 0, .int .u32 0, .int .u32 0, .int .i64 0, .slice none 0 0, .int .u32 0, .int .i64 0, .slice none 0 0, .bool false, .int .u32 0, .int .u32 0, .int .i64 0, .int .i64 0, .int .i64 0, .slice none 0 0] 30)).heap[wd.heap.size]? = some (.cells #[.int .i64 0, .int .i64 0, .int .u32 0, .int .u32 0, .int .u32 0, .int .i64 0, .slice none 0 0, .int .u32 0, .int .i64 0, .slice none 0 0, .bool false, .int .u32 0, .int .u32 0, .int .i64 0, .int .i64 0, .int .i64 0, .slice none 0 0] 30 (0, 0))) := Lib.hid (heap_alloc_new _ _)
      have hl1049 : Hid (wd.heap.size < (wd.alloc (.cells #[.int .i64 0, .int .i64 0, .int .u32 0, .int .u32 0, .int .u32 0, .int .i64 0, .slice none 0 0, .int .u32 0, .int .i64 0, .slice none 0 0, .bool false, .int .u32 0, .int .u32 0, .int .i64 0, .int .i64 0, .int .i64 0, .slice none 0 0] 30)).heap.size) := Lib.hid (by simp)
      have hg1049 : Hid (wA.heap.size ≤ wd.heap.size) := Lib.hid (hH0).size
      generalize (wd.alloc (.cells #[.int .i64 0, .int .i64 0, .int .u32 0, .int .u32 0, .int .u32 0, .int .i64 0, .slice none 0 0, .int .u32 0, .int .i64 0, .slice none 0 0, .bool false, .int .u32 0, .int .u32 0, .int .i64 0, .int .i64 0, .int .i64 0, .slice none 0 0] 30)) = wz1049 at *
      have hS1049 : (fun W => Below wA.heap.size wA W) wz1049 := (hH0).trans (hb1049.mono (hH0).size)
      refine hK.out _ _ hS1049 (fun hH1049 => ?_)
      clear hK K
      try simp only [Act.put, List.setIfInBounds_toArray, List.set_cons_zero, List.set_cons_succ]
      refine wpAnyH_ready (rs := [0, 1]) (by kernel_rfl) (by simp) ?_
      refine AllReadyH.cons (o := { dst := some 14, op := Op.load 30 (Operand.tmp 1), type := 30, pos := "law.go:21", after := #[], guard := none }) rfl (fun K hK => ?_) (AllReadyH.cons (o := { dst := some 15, op := Op.call { callee := Callee.value (Operand.func 42), args := #[Operand.const (Value.int IntKind.u32 2)], argTypes := #[22] }, type := 28, pos := "law.go:21", after := #[], guard := none }) rfl (fun K hK => ?_) AllReadyH.nil)
      · rw [if_pos (by rfl)]
        have tb1050 := ((hH1049).block w3.heap.size LA.out).trans TA.out
        refine wp_load_row _ _ rfl w3.heap.size rfl _ _ _ _ tb1050 Try.underlying30 rfl (by kernel_rfl) ?_
        clear tb1050
        have hS1050 : (fun W => Below wA.heap.size wA W) wz1049 := hH1049
        refine hK.out _ _ hS1050 (fun hH1050 => ?_)
        clear hK K
        try simp only [Act.put, List.setIfInBounds_toArray, List.set_cons_zero, List.set_cons_succ]
        refine wpAnyH_ready (rs := [1]) (by kernel_rfl) (by simp) ?_
        refine AllReadyH.cons (o := { dst := some 15, op := Op.call { callee := Callee.value (Operand.func 42), args := #[Operand.const (Value.int IntKind.u32 2)], argTypes := #[22] }, type := 28, pos := "law.go:21", after := #[], guard := none }) rfl (fun K hK => ?_) AllReadyH.nil
        go_simp
        refine (good_any 2 wz1049).mono ?_
        rintro e' wg1051 ⟨Ag1051, cg1051, rfl, Rg1051, hbg1051⟩
        have hb1051 := hbg1051.out
        clear hbg1051
        have hr1051 := Lib.hid Rg1051.out.row
        clear Rg1051
        have hx1051 := Lib.hid ((hb1051.block wd.heap.size hl1049.out).trans hx1049.out)
        have hl1051 := Lib.hid (Nat.lt_of_lt_of_le hl1049.out hb1051.size)
        go_simp
        have hS1051 : (fun W => Below wA.heap.size wA W) wg1051 := (hH1050).trans (hb1051.mono (hH1050).size)
        refine hK.out _ _ hS1051 (fun hH1051 => ?_)
        clear hK K
        try simp only [Act.put, List.setIfInBounds_toArray, List.set_cons_zero, List.set_cons_succ]
        refine wpAnyH_ready (rs := [2]) (by kernel_rfl) (by simp) ?_
        refine AllReadyH.cons (o := { dst := some 16, op := Op.call { callee := Callee.value (Operand.func 16), args := #[Operand.tmp 14, Operand.tmp 15], argTypes := #[30, 28] }, type := 40, pos := "law.go:21", after := #[{ on := 0, ground := Ground.data }, { on := 1, ground := Ground.data }, { on := 1, ground := Ground.chain }], guard := none }) rfl (fun K hK => ?_) AllReadyH.nil
        go_simp
        refine (admit_d 0 0 1 1 3 D0 32 k0 0 0 D1 0 k1 1 2 3 2 0 D 32 kd wg1051.heap.size n32 [] n32 1 2 3 2 0 Ag1051 32 cg1051 n32 wg1051 aw_may2 aw_man aw_same ((RA0.out.below (hH1051)).more (hH1051).size) (Row.nil _ _ _) ((RAD.out.below (hH1051)).more (hH1051).size) hr1051.out (Nat.le_refl _)).mono ?_
        rintro e' wm1052 ⟨rfl, hb1052⟩
        have hx1052 := Lib.hid ((hb1052.block wd.heap.size hl1051.out).trans hx1051.out)
        have hl1052 := Lib.hid (Nat.lt_of_lt_of_le hl1051.out hb1052.size)
        go_simp
        have hS1052 : (fun W => Below wA.heap.size wA W) wm1052 := (hH1051).trans (hb1052.mono (hH1051).size)
        refine hK.out _ _ hS1052 (fun hH1052 => ?_)
        clear hK K
        try simp only [Act.put, List.setIfInBounds_toArray, List.set_cons_zero, List.set_cons_succ]
        refine wpAnyH_take (i := 3) (oi := { dst := some 13, op := Op.move (Operand.tmp 16), type := 40, pos := "law.go:21", after := #[{ on := 2, ground := Ground.data }], guard := none }) (v := ?tkv1053) rfl (by kernel_rfl) (by kernel_rfl) (by kernel_rfl) (fun _ _ _ h => h) (Or.inl ⟨by rfl, ?tky1053⟩) hH1052 ?tkr1053
        case tky1053 => (intro w' hSw; clear hSw; go_simp; try with_reducible rfl)
        try simp only [Act.put, List.setIfInBounds_toArray, List.set_cons_zero, List.set_cons_succ]
        refine wpAnyH_take (i := 4) (oi := { dst := some 17, op := Op.extract (Operand.tmp 13) 0, type := 30, pos := "law.go:21", after := #[{ on := 3, ground := Ground.data }], guard := none }) (v := ?tkv1054) rfl (by kernel_rfl) (by kernel_rfl) (by kernel_rfl) (fun _ _ _ h => h) (Or.inl ⟨by rfl, ?tky1054⟩) hH1052 ?tkr1054
        case tky1054 => (intro w' hSw; clear hSw; go_simp; try with_reducible rfl)
        try simp only [Act.put, List.setIfInBounds_toArray, List.set_cons_zero, List.set_cons_succ]
        refine wpAnyH_take (i := 5) (oi := { dst := some 18, op := Op.extract (Operand.tmp 13) 1, type := 33, pos := "law.go:21", after := #[{ on := 3, ground := Ground.data }, { on := 7, ground := Ground.gcOnly Departure.lateStores }], guard := none }) (v := ?tkv1055) rfl (by kernel_rfl) (by kernel_rfl) (by kernel_rfl) (fun _ _ _ h => h) (Or.inl ⟨by rfl, ?tky1055⟩) hH1052 ?tkr1055
        case tky1055 => (intro w' hSw; clear hSw; go_simp; try with_reducible rfl)
        try simp only [Act.put, List.setIfInBounds_toArray, List.set_cons_zero, List.set_cons_succ]
        refine wpAnyH_ready (rs := [7]) (by kernel_rfl) (by simp) ?_
        refine AllReadyH.cons (o := { dst := none, op := Op.store 30 (Operand.tmp 3) (Operand.tmp 17), type := 0, pos := "law.go:21", after := #[{ on := 6, ground := Ground.data }, { on := 4, ground := Ground.data }, { on := 2, ground := Ground.chain }, { on := 0, ground := Ground.phase }, { on := 1, ground := Ground.phase }, { on := 2, ground := Ground.phase }, { on := 3, ground := Ground.phase }, { on := 4, ground := Ground.phase }, { on := 5, ground := Ground.textOnly Departure.lateStores }, { on := 6, ground := Ground.phase }], guard := none }) rfl (fun K hK => ?_) AllReadyH.nil
        rw [if_pos (by rfl)]
        refine wp_store_row _ _ _ rfl wd.heap.size zState rfl rfl _ _ hx1052.out (by kernel_rfl) (by rfl) (by kernel_rfl) ?_
        have hS1056 : (fun W => Below wA.heap.size wA W) (wm1052.setRow wd.heap.size zState) := (below_setRow2 (hH1052) hg1049.out _)
        refine hK.out _ _ hS1056 (fun hH1056 => ?_)
        clear hK K
        try simp only [Act.put]
        refine wpAnyH_take (i := 8) (oi := { dst := some 4, op := Op.assign (Operand.tmp 18), type := 33, pos := "law.go:21", after := #[{ on := 5, ground := Ground.data }, { on := 7, ground := Ground.chain }, { on := 0, ground := Ground.phase }, { on := 1, ground := Ground.phase }, { on := 2, ground := Ground.phase }, { on := 3, ground := Ground.phase }, { on := 4, ground := Ground.phase }, { on := 5, ground := Ground.phase }, { on := 6, ground := Ground.phase }, { on := 7, ground := Ground.phase }], guard := none }) (v := ?tkv1057) rfl (by kernel_rfl) (by kernel_rfl) (by kernel_rfl) (fun _ _ _ h => h) (Or.inl ⟨by rfl, ?tky1057⟩) hH1056 ?tkr1057
        case tky1057 => (intro w' hSw; clear hSw; go_simp; try with_reducible rfl)
        try simp only [Act.put, List.setIfInBounds_toArray, List.set_cons_zero, List.set_cons_succ]
        refine wpAnyH_done (by kernel_rfl) ?_ _
        refine NoPanic.normal ?_
        go_wp2_with fail
        go_meet
        exact ⟨rfl, Lib.hid (hH1056)⟩
      · go_simp
        refine (good_any 2 wz1049).mono ?_
        rintro e' wg1058 ⟨Ag1058, cg1058, rfl, Rg1058, hbg1058⟩
        have hb1058 := hbg1058.out
        clear hbg1058
        have hr1058 := Lib.hid Rg1058.out.row
        clear Rg1058
        have hx1058 := Lib.hid ((hb1058.block wd.heap.size hl1049.out).trans hx1049.out)
        have hl1058 := Lib.hid (Nat.lt_of_lt_of_le hl1049.out hb1058.size)
        go_simp
        have hS1058 : (fun W => Below wA.heap.size wA W) wg1058 := (hH1049).trans (hb1058.mono (hH1049).size)
        refine hK.out _ _ hS1058 (fun hH1058 => ?_)
        clear hK K
        try simp only [Act.put, List.setIfInBounds_toArray, List.set_cons_zero, List.set_cons_succ]
        refine wpAnyH_ready (rs := [0]) (by kernel_rfl) (by simp) ?_
        refine AllReadyH.cons (o := { dst := some 14, op := Op.load 30 (Operand.tmp 1), type := 30, pos := "law.go:21", after := #[], guard := none }) rfl (fun K hK => ?_) AllReadyH.nil
        rw [if_pos (by rfl)]
        have tb1059 := ((hH1058).block w3.heap.size LA.out).trans TA.out
        refine wp_load_row _ _ rfl w3.heap.size rfl _ _ _ _ tb1059 Try.underlying30 rfl (by kernel_rfl) ?_
        clear tb1059
        have hS1059 : (fun W => Below wA.heap.size wA W) wg1058 := hH1058
        refine hK.out _ _ hS1059 (fun hH1059 => ?_)
        clear hK K
        try simp only [Act.put, List.setIfInBounds_toArray, List.set_cons_zero, List.set_cons_succ]
        refine wpAnyH_ready (rs := [2]) (by kernel_rfl) (by simp) ?_
        refine AllReadyH.cons (o := { dst := some 16, op := Op.call { callee := Callee.value (Operand.func 16), args := #[Operand.tmp 14, Operand.tmp 15], argTypes := #[30, 28] }, type := 40, pos := "law.go:21", after := #[{ on := 0, ground := Ground.data }, { on := 1, ground := Ground.data }, { on := 1, ground := Ground.chain }], guard := none }) rfl (fun K hK => ?_) AllReadyH.nil
        go_simp
        refine (admit_d 0 0 1 1 3 D0 32 k0 0 0 D1 0 k1 1 2 3 2 0 D 32 kd wg1058.heap.size n32 [] n32 1 2 3 2 0 Ag1058 32 cg1058 n32 wg1058 aw_may2 aw_man aw_same ((RA0.out.below (hH1059)).more (hH1059).size) (Row.nil _ _ _) ((RAD.out.below (hH1059)).more (hH1059).size) hr1058.out (Nat.le_refl _)).mono ?_
        rintro e' wm1060 ⟨rfl, hb1060⟩
        have hx1060 := Lib.hid ((hb1060.block wd.heap.size hl1058.out).trans hx1058.out)
        have hl1060 := Lib.hid (Nat.lt_of_lt_of_le hl1058.out hb1060.size)
        go_simp
        have hS1060 : (fun W => Below wA.heap.size wA W) wm1060 := (hH1059).trans (hb1060.mono (hH1059).size)
        refine hK.out _ _ hS1060 (fun hH1060 => ?_)
        clear hK K
        try simp only [Act.put, List.setIfInBounds_toArray, List.set_cons_zero, List.set_cons_succ]
        refine wpAnyH_take (i := 3) (oi := { dst := some 13, op := Op.move (Operand.tmp 16), type := 40, pos := "law.go:21", after := #[{ on := 2, ground := Ground.data }], guard := none }) (v := ?tkv1061) rfl (by kernel_rfl) (by kernel_rfl) (by kernel_rfl) (fun _ _ _ h => h) (Or.inl ⟨by rfl, ?tky1061⟩) hH1060 ?tkr1061
        case tky1061 => (intro w' hSw; clear hSw; go_simp; try with_reducible rfl)
        try simp only [Act.put, List.setIfInBounds_toArray, List.set_cons_zero, List.set_cons_succ]
        refine wpAnyH_take (i := 4) (oi := { dst := some 17, op := Op.extract (Operand.tmp 13) 0, type := 30, pos := "law.go:21", after := #[{ on := 3, ground := Ground.data }], guard := none }) (v := ?tkv1062) rfl (by kernel_rfl) (by kernel_rfl) (by kernel_rfl) (fun _ _ _ h => h) (Or.inl ⟨by rfl, ?tky1062⟩) hH1060 ?tkr1062
        case tky1062 => (intro w' hSw; clear hSw; go_simp; try with_reducible rfl)
        try simp only [Act.put, List.setIfInBounds_toArray, List.set_cons_zero, List.set_cons_succ]
        refine wpAnyH_take (i := 5) (oi := { dst := some 18, op := Op.extract (Operand.tmp 13) 1, type := 33, pos := "law.go:21", after := #[{ on := 3, ground := Ground.data }, { on := 7, ground := Ground.gcOnly Departure.lateStores }], guard := none }) (v := ?tkv1063) rfl (by kernel_rfl) (by kernel_rfl) (by kernel_rfl) (fun _ _ _ h => h) (Or.inl ⟨by rfl, ?tky1063⟩) hH1060 ?tkr1063
        case tky1063 => (intro w' hSw; clear hSw; go_simp; try with_reducible rfl)
        try simp only [Act.put, List.setIfInBounds_toArray, List.set_cons_zero, List.set_cons_succ]
        refine wpAnyH_ready (rs := [7]) (by kernel_rfl) (by simp) ?_
        refine AllReadyH.cons (o := { dst := none, op := Op.store 30 (Operand.tmp 3) (Operand.tmp 17), type := 0, pos := "law.go:21", after := #[{ on := 6, ground := Ground.data }, { on := 4, ground := Ground.data }, { on := 2, ground := Ground.chain }, { on := 0, ground := Ground.phase }, { on := 1, ground := Ground.phase }, { on := 2, ground := Ground.phase }, { on := 3, ground := Ground.phase }, { on := 4, ground := Ground.phase }, { on := 5, ground := Ground.textOnly Departure.lateStores }, { on := 6, ground := Ground.phase }], guard := none }) rfl (fun K hK => ?_) AllReadyH.nil
        rw [if_pos (by rfl)]
        refine wp_store_row _ _ _ rfl wd.heap.size zState rfl rfl _ _ hx1060.out (by kernel_rfl) (by rfl) (by kernel_rfl) ?_
        have hS1064 : (fun W => Below wA.heap.size wA W) (wm1060.setRow wd.heap.size zState) := (below_setRow2 (hH1060) hg1049.out _)
        refine hK.out _ _ hS1064 (fun hH1064 => ?_)
        clear hK K
        try simp only [Act.put]
        refine wpAnyH_take (i := 8) (oi := { dst := some 4, op := Op.assign (Operand.tmp 18), type := 33, pos := "law.go:21", after := #[{ on := 5, ground := Ground.data }, { on := 7, ground := Ground.chain }, { on := 0, ground := Ground.phase }, { on := 1, ground := Ground.phase }, { on := 2, ground := Ground.phase }, { on := 3, ground := Ground.phase }, { on := 4, ground := Ground.phase }, { on := 5, ground := Ground.phase }, { on := 6, ground := Ground.phase }, { on := 7, ground := Ground.phase }], guard := none }) (v := ?tkv1065) rfl (by kernel_rfl) (by kernel_rfl) (by kernel_rfl) (fun _ _ _ h => h) (Or.inl ⟨by rfl, ?tky1065⟩) hH1064 ?tkr1065
        case tky1065 => (intro w' hSw; clear hSw; go_simp; try with_reducible rfl)
        try simp only [Act.put, List.setIfInBounds_toArray, List.set_cons_zero, List.set_cons_succ]
        refine wpAnyH_done (by kernel_rfl) ?_ _
        refine NoPanic.normal ?_
        go_wp2_with fail
        go_meet
        exact ⟨rfl, Lib.hid (hH1064)⟩
  case rest =>
    obtain ⟨rfl, hbx⟩ := hcut
    have TB := Lib.hid ((hbx.out.block w3.heap.size LA.out).trans TA.out)
    have LB := Lib.hid (Nat.lt_of_lt_of_le LA.out hbx.out.size)
    have RB0 := Lib.hid ((RA0.out.below hbx.out).more hbx.out.size)
    have RBD := Lib.hid ((RAD.out.below hbx.out).more hbx.out.size)
    have HBB : Hid (Below w.heap.size w wc) := Lib.hid (HBA.out.trans (hbx.out.mono HBA.out.size))
    obtain ⟨wB, rfl⟩ : ∃ x : World, x = wc := ⟨_, rfl⟩
    clear TA LA RA0 RAD HBA hbx
    go_upto_region 3 with fail
    go_cut [6] (fun s6 wx => s6 = .int .i64 6 ∧ Hid (Below wB.heap.size wB wx))
    case first =>
      refine wp_region_noPanic ?_
      refine wp_region_held_drew (S := (fun W => Below wB.heap.size wB W)) (by kernel_rfl) (Below.refl _ _).drew (fun hH0 => ?_)
      have hH0 : (fun W => Below wB.heap.size wB W) wB.drew := hH0
      generalize wB.drew = wd at *
      refine wpAnyH_ready (rs := [0, 1, 6]) (by kernel_rfl) (by simp) ?_
      refine AllReadyH.cons (o := { dst := some 20, op := Op.load 30 (Operand.tmp 1), type := 30, pos := "law.go:22", after := #[], guard := none }) rfl (fun K hK => ?_) (AllReadyH.cons (o := { dst := some 21, op := Op.call { callee := Callee.value (Operand.func 42), args := #[Operand.const (Value.int IntKind.u32 1)], argTypes := #[22] }, type := 28, pos := "law.go:22", after := #[], guard := none }) rfl (fun K hK => ?_) (AllReadyH.cons (o := { dst := some 5, op := Op.alloc 30, type := 0, pos := "law.go:22", after := #[], guard := none }) rfl (fun K hK => ?_) AllReadyH.nil))
      · rw [if_pos (by rfl)]
        have tb2001 := ((hH0).block w3.heap.size LB.out).trans TB.out
        refine wp_load_row _ _ rfl w3.heap.size rfl _ _ _ _ tb2001 Try.underlying30 rfl (by kernel_rfl) ?_
        clear tb2001
        have hS2001 : (fun W => Below wB.heap.size wB W) wd := hH0
        refine hK.out _ _ hS2001 (fun hH2001 => ?_)
        clear hK K
        try simp only [Act.put, List.setIfInBounds_toArray, List.set_cons_zero, List.set_cons_succ]
        refine wpAnyH_ready (rs := [1, 6]) (by kernel_rfl) (by simp) ?_
        refine AllReadyH.cons (o := { dst := some 21, op := Op.call { callee := Callee.value (Operand.func 42), args := #[Operand.const (Value.int IntKind.u32 1)], argTypes := #[22] }, type := 28, pos := "law.go:22", after := #[], guard := none }) rfl (fun K hK => ?_) (AllReadyH.cons (o := { dst := some 5, op := Op.alloc 30, type := 0, pos := "law.go:22", after := #[], guard := none }) rfl (fun K hK => ?_) AllReadyH.nil)
        · go_simp
          refine (good_any 1 wd).mono ?_
          rintro e' wg2002 ⟨Ag2002, cg2002, rfl, Rg2002, hbg2002⟩
          have hb2002 := hbg2002.out
          clear hbg2002
          have hr2002 := Lib.hid Rg2002.out.row
          clear Rg2002
          go_simp
          have hS2002 : (fun W => Below wB.heap.size wB W) wg2002 := (hH2001).trans (hb2002.mono (hH2001).size)
          refine hK.out _ _ hS2002 (fun hH2002 => ?_)
          clear hK K
          try simp only [Act.put, List.setIfInBounds_toArray, List.set_cons_zero, List.set_cons_succ]
          refine wpAnyH_ready (rs := [2, 6]) (by kernel_rfl) (by simp) ?_
          refine AllReadyH.cons (o := { dst := some 22, op := Op.call { callee := Callee.value (Operand.func 16), args := #[Operand.tmp 20, Operand.tmp 21], argTypes := #[30, 28] }, type := 40, pos := "law.go:22", after := #[{ on := 0, ground := Ground.data }, { on := 1, ground := Ground.data }, { on := 1, ground := Ground.chain }], guard := none }) rfl (fun K hK => ?_) (AllReadyH.cons (o := { dst := some 5, op := Op.alloc 30, type := 0, pos := "law.go:22", after := #[], guard := none }) rfl (fun K hK => ?_) AllReadyH.nil)
          · go_simp
            refine (admit_et 0 0 1 1 3 D0 32 k0 0 0 D1 0 k1 1 2 3 2 0 D 32 kd wg2002.heap.size n32 [] n32 1 1 3 2 0 Ag2002 32 cg2002 n32 wg2002 aw_may2 aw_man aw_same1 aw_old ((RB0.out.below (hH2002)).more (hH2002).size) (Row.nil _ _ _) ((RBD.out.below (hH2002)).more (hH2002).size) hr2002.out (Nat.le_refl _)).mono ?_
            rintro e' wm2003 ⟨rfl, hb2003⟩
            go_simp
            have hS2003 : (fun W => Below wB.heap.size wB W) wm2003 := (hH2002).trans (hb2003.mono (hH2002).size)
            refine hK.out _ _ hS2003 (fun hH2003 => ?_)
            clear hK K
            try simp only [Act.put, List.setIfInBounds_toArray, List.set_cons_zero, List.set_cons_succ]
            refine wpAnyH_take (i := 3) (oi := { dst := some 19, op := Op.move (Operand.tmp 22), type := 40, pos := "law.go:22", after := #[{ on := 2, ground := Ground.data }], guard := none }) (v := ?tkv2004) rfl (by kernel_rfl) (by kernel_rfl) (by kernel_rfl) (fun _ _ _ h => h) (Or.inl ⟨by rfl, ?tky2004⟩) hH2003 ?tkr2004
            case tky2004 => (intro w' hSw; clear hSw; go_simp; try with_reducible rfl)
            try simp only [Act.put, List.setIfInBounds_toArray, List.set_cons_zero, List.set_cons_succ]
            refine wpAnyH_take (i := 4) (oi := { dst := some 23, op := Op.extract (Operand.tmp 19) 0, type := 30, pos := "law.go:22", after := #[{ on := 3, ground := Ground.data }], guard := none }) (v := ?tkv2005) rfl (by kernel_rfl) (by kernel_rfl) (by kernel_rfl) (fun _ _ _ h => h) (Or.inl ⟨by rfl, ?tky2005⟩) hH2003 ?tkr2005
            case tky2005 => (intro w' hSw; clear hSw; go_simp; try with_reducible rfl)
            try simp only [Act.put, List.setIfInBounds_toArray, List.set_cons_zero, List.set_cons_succ]
            refine wpAnyH_take (i := 5) (oi := { dst := some 24, op := Op.extract (Operand.tmp 19) 1, type := 33, pos := "law.go:22", after := #[{ on := 3, ground := Ground.data }, { on := 7, ground := Ground.gcOnly Departure.lateStores }], guard := none }) (v := ?tkv2006) rfl (by kernel_rfl) (by kernel_rfl) (by kernel_rfl) (fun _ _ _ h => h) (Or.inl ⟨by rfl, ?tky2006⟩) hH2003 ?tkr2006
            case tky2006 => (intro w' hSw; clear hSw; go_simp; try with_reducible rfl)
            try simp only [Act.put, List.setIfInBounds_toArray, List.set_cons_zero, List.set_cons_succ]
            refine wpAnyH_ready (rs := [6]) (by kernel_rfl) (by simp) ?_
            refine AllReadyH.cons (o := { dst := some 5, op := Op.alloc 30, type := 0, pos := "law.go:22", after := #[], guard := none }) rfl (fun K hK => ?_) AllReadyH.nil
            go_simp
            have hb2007 : Below wm2003.heap.size wm2003 (wm2003.alloc (.cells #[.int .i64 0, .int .i64 0, .int .u32 0, .int .u32 0, .int .u32 0, .int .i64 0, .slice none 0 0, .int .u32 0, .int .i64 0, .slice none 0 0, .bool false, .int .u32 0, .int .u32 0, .int .i64 0, .int .i64 0, .int .i64 0, .slice none 0 0] 30)) := (Below.refl _ _).alloc (Nat.le_refl _) _
            have hx2007 : Hid ((wm2003.alloc (.cells #[.int .i64 0, .int .i64 0, .int .u32 0, .int .u32 0, .int .u32 0, .int .i64 0, .slice none 0 0, .int .u32 0, .int .i64 0, .slice none 0 0, .bool false, .int .u32 0, .int .u32 0, .int .i64 0, .int .i64 0, .int .i64 0, .slice none 0 0] 30)).heap[wm2003.heap.size]? = some (.cells #[.int .i64 0, .int .i64 0, .int .u32 0, .int .u32 0, .int .u32 0, .int .i64 0, .slice none 0 0, .int .u32 0, .int .i64 0, .slice none 0 0, .bool false, .int .u32 0, .int .u32 0, .int .i64 0, .int .i64 0, .int .i64 0, .slice none 0 0] 30 (0, 0))) := Lib.hid (heap_alloc_new _ _)
            have hl2007 : Hid (wm2003.heap.size < (wm2003.alloc (.cells #[.int .i64 0, .int .i64 0, .int .u32 0, .int .u32 0, .int .u32 0, .int .i64 0, .slice none 0 0, .int .u32 0, .int .i64 0, .slice none 0 0, .bool false, .int .u32 0, .int .u32 0, .int .i64 0, .int .i64 0, .int .i64 0, .slice none 0 0] 30)).heap.size) := Lib.hid (by simp)
            have hg2007 : Hid (wB.heap.size ≤ wm2003.heap.size) := Lib.hid (hH2003).size
            generalize (wm2003.alloc (.cells #[.int .i64 0, .int .i64 0, .int .u32 0, .int .u32 0, .int .u32 0, .int .i64 0, .slice none 0 0, .int .u32 0, .int .i64 0, .slice none 0 0, .bool false, .int .u32 0, .int .u32 0, .int .i64 0, .int .i64 0, .int .i64 0, .slice none 0 0] 30)) = wz2007 at *
            have hS2007 : (fun W => Below wB.heap.size wB W) wz2007 := (hH2003).trans (hb2007.mono (hH2003).size)
            refine hK.out _ _ hS2007 (fun hH2007 => ?_)
            clear hK K
            try simp only [Act.put, List.setIfInBounds_toArray, List.set_cons_zero, List.set_cons_succ]
            refine wpAnyH_ready (rs := [7]) (by kernel_rfl) (by simp) ?_
            refine AllReadyH.cons (o := { dst := none, op := Op.store 30 (Operand.tmp 5) (Operand.tmp 23), type := 0, pos := "law.go:22", after := #[{ on := 6, ground := Ground.data }, { on := 4, ground := Ground.data }, { on := 2, ground := Ground.chain }, { on := 0, ground := Ground.phase }, { on := 1, ground := Ground.phase }, { on := 2, ground := Ground.phase }, { on := 3, ground := Ground.phase }, { on := 4, ground := Ground.phase }, { on := 5, ground := Ground.textOnly Departure.lateStores }, { on := 6, ground := Ground.phase }], guard := none }) rfl (fun K hK => ?_) AllReadyH.nil
            rw [if_pos (by rfl)]
            refine wp_store_row _ _ _ rfl wm2003.heap.size zState rfl rfl _ _ hx2007.out (by kernel_rfl) (by rfl) (by kernel_rfl) ?_
            have hS2008 : (fun W => Below wB.heap.size wB W) (wz2007.setRow wm2003.heap.size zState) := (below_setRow2 (hH2007) hg2007.out _)
            refine hK.out _ _ hS2008 (fun hH2008 => ?_)
            clear hK K
            try simp only [Act.put]
            refine wpAnyH_take (i := 8) (oi := { dst := some 6, op := Op.assign (Operand.tmp 24), type := 33, pos := "law.go:22", after := #[{ on := 5, ground := Ground.data }, { on := 7, ground := Ground.chain }, { on := 0, ground := Ground.phase }, { on := 1, ground := Ground.phase }, { on := 2, ground := Ground.phase }, { on := 3, ground := Ground.phase }, { on := 4, ground := Ground.phase }, { on := 5, ground := Ground.phase }, { on := 6, ground := Ground.phase }, { on := 7, ground := Ground.phase }], guard := none }) (v := ?tkv2009) rfl (by kernel_rfl) (by kernel_rfl) (by kernel_rfl) (fun _ _ _ h => h) (Or.inl ⟨by rfl, ?tky2009⟩) hH2008 ?tkr2009
            case tky2009 => (intro w' hSw; clear hSw; go_simp; try with_reducible rfl)
            try simp only [Act.put, List.setIfInBounds_toArray, List.set_cons_zero, List.set_cons_succ]
            refine wpAnyH_done (by kernel_rfl) ?_ _
            refine NoPanic.normal ?_
            go_wp2_with fail
            go_meet
            exact ⟨rfl, Lib.hid (hH2008)⟩
          · go_simp
            have hb2010 : Below wg2002.heap.size wg2002 (wg2002.alloc (.cells #[.int .i64 0, .int .i64 0, .int .u32 0, .int .u32 0, .int .u32 0, .int .i64 0, .slice none 0 0, .int .u32 0, .int .i64 0, .slice none 0 0, .bool false, .int .u32 0, .int .u32 0, .int .i64 0, .int .i64 0, .int .i64 0, .slice none 0 0] 30)) := (Below.refl _ _).alloc (Nat.le_refl _) _
            have hx2010 : Hid ((wg2002.alloc (.cells #[.int .i64 0, .int .i64 0, .int .u32 0, .int .u32 0, .int .u32 0, .int .i64 0, .slice none 0 0, .int .u32 0, .int .i64 0, .slice none 0 0, .bool false, .int .u32 0, .int .u32 0, .int .i64 0, .int .i64 0, .int .i64 0, .slice none 0 0] 30)).heap[wg2002.heap.size]? = some (.cells #[.int .i64 0, .int .i64 0, .int .u32 0, .int .u32 0, .int .u32 0, .int .i64 0, .slice none 0 0, .int .u32 0, .int .i64 0, .slice none 0 0, .bool false, .int .u32 0, .int .u32 0, .int .i64 0, .int .i64 0, .int .i64 0, .slice none 0 0] 30 (0, 0))) := Lib.hid (heap_alloc_new _ _)
            have hl2010 : Hid (wg2002.heap.size < (wg2002.alloc (.cells #[.int .i64 0, .int .i64 0, .int .u32 0, .int .u32 0, .int .u32 0, .int .i64 0, .slice none 0 0, .int .u32 0, .int .i64 0, .slice none 0 0, .bool false, .int .u32 0, .int .u32 0, .int .i64 0, .int .i64 0, .int .i64 0, .slice none 0 0] 30)).heap.size) := Lib.hid (by simp)
            have hg2010 : Hid (wB.heap.size ≤ wg2002.heap.size) := Lib.hid (hH2002).size
            have hr2010 := Lib.hid ((hr2002.out.below hb2010).more hb2010.size)
            generalize (wg2002.alloc (.cells #[.int .i64 0, .int .i64 0, .int .u32 0, .int .u32 0, .int .u32 0, .int .i64 0, .slice none 0 0, .int .u32 0, .int .i64 0, .slice none 0 0, .bool false, .int .u32 0, .int .u32 0, .int .i64 0, .int .i64 0, .int .i64 0, .slice none 0 0] 30)) = wz2010 at *
            have hS2010 : (fun W => Below wB.heap.size wB W) wz2010 := (hH2002).trans (hb2010.mono (hH2002).size)
            refine hK.out _ _ hS2010 (fun hH2010 => ?_)
            clear hK K
            try simp only [Act.put, List.setIfInBounds_toArray, List.set_cons_zero, List.set_cons_succ]
            refine wpAnyH_ready (rs := [2]) (by kernel_rfl) (by simp) ?_
            refine AllReadyH.cons (o := { dst := some 22, op := Op.call { callee := Callee.value (Operand.func 16), args := #[Operand.tmp 20, Operand.tmp 21], argTypes := #[30, 28] }, type := 40, pos := "law.go:22", after := #[{ on := 0, ground := Ground.data }, { on := 1, ground := Ground.data }, { on := 1, ground := Ground.chain }], guard := none }) rfl (fun K hK => ?_) AllReadyH.nil
            go_simp
            refine (admit_et 0 0 1 1 3 D0 32 k0 0 0 D1 0 k1 1 2 3 2 0 D 32 kd wz2010.heap.size n32 [] n32 1 1 3 2 0 Ag2002 32 cg2002 n32 wz2010 aw_may2 aw_man aw_same1 aw_old ((RB0.out.below (hH2010)).more (hH2010).size) (Row.nil _ _ _) ((RBD.out.below (hH2010)).more (hH2010).size) hr2010.out (Nat.le_refl _)).mono ?_
            rintro e' wm2011 ⟨rfl, hb2011⟩
            have hx2011 := Lib.hid ((hb2011.block wg2002.heap.size hl2010.out).trans hx2010.out)
            have hl2011 := Lib.hid (Nat.lt_of_lt_of_le hl2010.out hb2011.size)
            go_simp
            have hS2011 : (fun W => Below wB.heap.size wB W) wm2011 := (hH2010).trans (hb2011.mono (hH2010).size)
            refine hK.out _ _ hS2011 (fun hH2011 => ?_)
            clear hK K
            try simp only [Act.put, List.setIfInBounds_toArray, List.set_cons_zero, List.set_cons_succ]
            refine wpAnyH_take (i := 3) (oi := { dst := some 19, op := Op.move (Operand.tmp 22), type := 40, pos := "law.go:22", after := #[{ on := 2, ground := Ground.data }], guard := none }) (v := ?tkv2012) rfl (by kernel_rfl) (by kernel_rfl) (by kernel_rfl) (fun _ _ _ h => h) (Or.inl ⟨by rfl, ?tky2012⟩) hH2011 ?tkr2012
            case tky2012 => (intro w' hSw; clear hSw; go_simp; try with_reducible rfl)
            try simp only [Act.put, List.setIfInBounds_toArray, List.set_cons_zero, List.set_cons_succ]
            refine wpAnyH_take (i := 4) (oi := { dst := some 23, op := Op.extract (Operand.tmp 19) 0, type := 30, pos := "law.go:22", after := #[{ on := 3, ground := Ground.data }], guard := none }) (v := ?tkv2013) rfl (by kernel_rfl) (by kernel_rfl) (by kernel_rfl) (fun _ _ _ h => h) (Or.inl ⟨by rfl, ?tky2013⟩) hH2011 ?tkr2013
            case tky2013 => (intro w' hSw; clear hSw; go_simp; try with_reducible rfl)
            try simp only [Act.put, List.setIfInBounds_toArray, List.set_cons_zero, List.set_cons_succ]
            refine wpAnyH_take (i := 5) (oi := { dst := some 24, op := Op.extract (Operand.tmp 19) 1, type := 33, pos := "law.go:22", after := #[{ on := 3, ground := Ground.data }, { on := 7, ground := Ground.gcOnly Departure.lateStores }], guard := none }) (v := ?tkv2014) rfl (by kernel_rfl) (by kernel_rfl) (by kernel_rfl) (fun _ _ _ h => h) (Or.inl ⟨by rfl, ?tky2014⟩) hH2011 ?tkr2014
            case tky2014 => (intro w' hSw; clear hSw; go_simp; try with_reducible rfl)
            try simp only [Act.put, List.setIfInBounds_toArray, List.set_cons_zero, List.set_cons_succ]
            refine wpAnyH_ready (rs := [7]) (by kernel_rfl) (by simp) ?_
            refine AllReadyH.cons (o := { dst := none, op := Op.store 30 (Operand.tmp 5) (Operand.tmp 23), type := 0, pos := "law.go:22", after := #[{ on := 6, ground := Ground.data }, { on := 4, ground := Ground.data }, { on := 2, ground := Ground.chain }, { on := 0, ground := Ground.phase }, { on := 1, ground := Ground.phase }, { on := 2, ground := Ground.phase }, { on := 3, ground := Ground.phase }, { on := 4, ground := Ground.phase }, { on := 5, ground := Ground.textOnly Departure.lateStores }, { on := 6, ground := Ground.phase }], guard := none }) rfl (fun K hK => ?_) AllReadyH.nil
            rw [if_pos (by rfl)]
            refine wp_store_row _ _ _ rfl wg2002.heap.size zState rfl rfl _ _ hx2011.out (by kernel_rfl) (by rfl) (by kernel_rfl) ?_
            have hS2015 : (fun W => Below wB.heap.size wB W) (wm2011.setRow wg2002.heap.size zState) := (below_setRow2 (hH2011) hg2010.out _)
            refine hK.out _ _ hS2015 (fun hH2015 => ?_)
            clear hK K
            try simp only [Act.put]
            refine wpAnyH_take (i := 8) (oi := { dst := some 6, op := Op.assign (Operand.tmp 24), type := 33, pos := "law.go:22", after := #[{ on := 5, ground := Ground.data }, { on := 7, ground := Ground.chain }, { on := 0, ground := Ground.phase }, { on := 1, ground := Ground.phase }, { on := 2, ground := Ground.phase }, { on := 3, ground := Ground.phase }, { on := 4, ground := Ground.phase }, { on := 5, ground := Ground.phase }, { on := 6, ground := Ground.phase }, { on := 7, ground := Ground.phase }], guard := none }) (v := ?tkv2016) rfl (by kernel_rfl) (by kernel_rfl) (by kernel_rfl) (fun _ _ _ h => h) (Or.inl ⟨by rfl, ?tky2016⟩) hH2015 ?tkr2016
            case tky2016 => (intro w' hSw; clear hSw; go_simp; try with_reducible rfl)
            try simp only [Act.put, List.setIfInBounds_toArray, List.set_cons_zero, List.set_cons_succ]
            refine wpAnyH_done (by kernel_rfl) ?_ _
            refine NoPanic.normal ?_
            go_wp2_with fail
            go_meet
            exact ⟨rfl, Lib.hid (hH2015)⟩
        · go_simp
          have hb2017 : Below wd.heap.size wd (wd.alloc (.cells #[.int .i64 0, .int .i64 0, .int .u32 0, .int .u32 0, .int .u32 0, .int .i64 0, .slice none 0 0, .int .u32 0, .int .i64 0, .slice none 0 0, .bool false, .int .u32 0, .int .u32 0, .int .i64 0, .int .i64 0, .int .i64 0, .slice none 0 0] 30)) := (Below.refl _ _).alloc (Nat.le_refl _) _
          have hx2017 : Hid ((wd.alloc (.cells #[.int .i64 0, .int .i64 0, .int .u32 0, .int .u32 0, .int .u32 0, .int .i64 0, .slice none 0 0, .int .u32 0, .int .i64 0, .slice none 0 0, .bool false, .int .u32 0, .int .u32 0, .int .i64 0, .int .i64 0, .int .i64 0, .slice none 0 0] 30)).heap[wd.heap.size]? = some (.cells #[.int .i64 0, .int .i64 0, .int .u32 0, .int .u32 0, .int .u32 0, .int .i64 0, .slice none 0 0, .int .u32 0, .int .i64 0, .slice none 0 0, .bool false, .int .u32 0, .int .u32 0, .int .i64 0, .int .i64 0, .int .i64 0, .slice none 0 0] 30 (0, 0))) := Lib.hid (heap_alloc_new _ _)
          have hl2017 : Hid (wd.heap.size < (wd.alloc (.cells #[.int .i64 0, .int .i64 0, .int .u32 0, .int .u32 0, .int .u32 0, .int .i64 0, .slice none 0 0, .int .u32 0, .int .i64 0, .slice none 0 0, .bool false, .int .u32 0, .int .u32 0, .int .i64 0, .int .i64 0, .int .i64 0, .slice none 0 0] 30)).heap.size) := Lib.hid (by simp)
          have hg2017 : Hid (wB.heap.size ≤ wd.heap.size) := Lib.hid (hH2001).size
          generalize (wd.alloc (.cells #[.int .i64 0, .int .i64 0, .int .u32 0, .int .u32 0, .int .u32 0, .int .i64 0, .slice none 0 0, .int .u32 0, .int .i64 0, .slice none 0 0, .bool false, .int .u32 0, .int .u32 0, .int .i64 0, .int .i64 0, .int .i64 0, .slice none 0 0] 30)) = wz2017 at *
          have hS2017 : (fun W => Below wB.heap.size wB W) wz2017 := (hH2001).trans (hb2017.mono (hH2001).size)
          refine hK.out _ _ hS2017 (fun hH2017 => ?_)
          clear hK K
          try simp only [Act.put, List.setIfInBounds_toArray, List.set_cons_zero, List.set_cons_succ]
          refine wpAnyH_ready (rs := [1]) (by kernel_rfl) (by simp) ?_
          refine AllReadyH.cons (o := { dst := some 21, op := Op.call { callee := Callee.value (Operand.func 42), args := #[Operand.const (Value.int IntKind.u32 1)], argTypes := #[22] }, type := 28, pos := "law.go:22", after := #[], guard := none }) rfl (fun K hK => ?_) AllReadyH.nil
          go_simp
          refine (good_any 1 wz2017).mono ?_
          rintro e' wg2018 ⟨Ag2018, cg2018, rfl, Rg2018, hbg2018⟩
          have hb2018 := hbg2018.out
          clear hbg2018
          have hr2018 := Lib.hid Rg2018.out.row
          clear Rg2018
          have hx2018 := Lib.hid ((hb2018.block wd.heap.size hl2017.out).trans hx2017.out)
          have hl2018 := Lib.hid (Nat.lt_of_lt_of_le hl2017.out hb2018.size)
          go_simp
          have hS2018 : (fun W => Below wB.heap.size wB W) wg2018 := (hH2017).trans (hb2018.mono (hH2017).size)
          refine hK.out _ _ hS2018 (fun hH2018 => ?_)
          clear hK K
          try simp only [Act.put, List.setIfInBounds_toArray, List.set_cons_zero, List.set_cons_succ]
          refine wpAnyH_ready (rs := [2]) (by kernel_rfl) (by simp) ?_
          refine AllReadyH.cons (o := { dst := some 22, op := Op.call { callee := Callee.value (Operand.func 16), args := #[Operand.tmp 20, Operand.tmp 21], argTypes := #[30, 28] }, type := 40, pos := "law.go:22", after := #[{ on := 0, ground := Ground.data }, { on := 1, ground := Ground.data }, { on := 1, ground := Ground.chain }], guard := none }) rfl (fun K hK => ?_) AllReadyH.nil
          go_simp
          refine (admit_et 0 0 1 1 3 D0 32 k0 0 0 D1 0 k1 1 2 3 2 0 D 32 kd wg2018.heap.size n32 [] n32 1 1 3 2 0 Ag2018 32 cg2018 n32 wg2018 aw_may2 aw_man aw_same1 aw_old ((RB0.out.below (hH2018)).more (hH2018).size) (Row.nil _ _ _) ((RBD.out.below (hH2018)).more (hH2018).size) hr2018.out (Nat.le_refl _)).mono ?_
          rintro e' wm2019 ⟨rfl, hb2019⟩
          have hx2019 := Lib.hid ((hb2019.block wd.heap.size hl2018.out).trans hx2018.out)
          have hl2019 := Lib.hid (Nat.lt_of_lt_of_le hl2018.out hb2019.size)
          go_simp
          have hS2019 : (fun W => Below wB.heap.size wB W) wm2019 := (hH2018).trans (hb2019.mono (hH2018).size)
          refine hK.out _ _ hS2019 (fun hH2019 => ?_)
          clear hK K
          try simp only [Act.put, List.setIfInBounds_toArray, List.set_cons_zero, List.set_cons_succ]
          refine wpAnyH_take (i := 3) (oi := { dst := some 19, op := Op.move (Operand.tmp 22), type := 40, pos := "law.go:22", after := #[{ on := 2, ground := Ground.data }], guard := none }) (v := ?tkv2020) rfl (by kernel_rfl) (by kernel_rfl) (by kernel_rfl) (fun _ _ _ h => h) (Or.inl ⟨by rfl, ?tky2020⟩) hH2019 ?tkr2020
          case tky2020 => (intro w' hSw; clear hSw; go_simp; try with_reducible rfl)
          try simp only [Act.put, List.setIfInBounds_toArray, List.set_cons_zero, List.set_cons_succ]
          refine wpAnyH_take (i := 4) (oi := { dst := some 23, op := Op.extract (Operand.tmp 19) 0, type := 30, pos := "law.go:22", after := #[{ on := 3, ground := Ground.data }], guard := none }) (v := ?tkv2021) rfl (by kernel_rfl) (by kernel_rfl) (by kernel_rfl) (fun _ _ _ h => h) (Or.inl ⟨by rfl, ?tky2021⟩) hH2019 ?tkr2021
          case tky2021 => (intro w' hSw; clear hSw; go_simp; try with_reducible rfl)
          try simp only [Act.put, List.setIfInBounds_toArray, List.set_cons_zero, List.set_cons_succ]
          refine wpAnyH_take (i := 5) (oi := { dst := some 24, op := Op.extract (Operand.tmp 19) 1, type := 33, pos := "law.go:22", after := #[{ on := 3, ground := Ground.data }, { on := 7, ground := Ground.gcOnly Departure.lateStores }], guard := none }) (v := ?tkv2022) rfl (by kernel_rfl) (by kernel_rfl) (by kernel_rfl) (fun _ _ _ h => h) (Or.inl ⟨by rfl, ?tky2022⟩) hH2019 ?tkr2022
          case tky2022 => (intro w' hSw; clear hSw; go_simp; try with_reducible rfl)
          try simp only [Act.put, List.setIfInBounds_toArray, List.set_cons_zero, List.set_cons_succ]
          refine wpAnyH_ready (rs := [7]) (by kernel_rfl) (by simp) ?_
          refine AllReadyH.cons (o := { dst := none, op := Op.store 30 (Operand.tmp 5) (Operand.tmp 23), type := 0, pos := "law.go:22", after := #[{ on := 6, ground := Ground.data }, { on := 4, ground := Ground.data }, { on := 2, ground := Ground.chain }, { on := 0, ground := Ground.phase }, { on := 1, ground := Ground.phase }, { on := 2, ground := Ground.phase }, { on := 3, ground := Ground.phase }, { on := 4, ground := Ground.phase }, { on := 5, ground := Ground.textOnly Departure.lateStores }, { on := 6, ground := Ground.phase }], guard := none }) rfl (fun K hK => ?_) AllReadyH.nil
          rw [if_pos (by rfl)]
          refine wp_store_row _ _ _ rfl wd.heap.size zState rfl rfl _ _ hx2019.out (by kernel_rfl) (by rfl) (by kernel_rfl) ?_
          have hS2023 : (fun W => Below wB.heap.size wB W) (wm2019.setRow wd.heap.size zState) := (below_setRow2 (hH2019) hg2017.out _)
          refine hK.out _ _ hS2023 (fun hH2023 => ?_)
          clear hK K
          try simp only [Act.put]
          refine wpAnyH_take (i := 8) (oi := { dst := some 6, op := Op.assign (Operand.tmp 24), type := 33, pos := "law.go:22", after := #[{ on := 5, ground := Ground.data }, { on := 7, ground := Ground.chain }, { on := 0, ground := Ground.phase }, { on := 1, ground := Ground.phase }, { on := 2, ground := Ground.phase }, { on := 3, ground := Ground.phase }, { on := 4, ground := Ground.phase }, { on := 5, ground := Ground.phase }, { on := 6, ground := Ground.phase }, { on := 7, ground := Ground.phase }], guard := none }) (v := ?tkv2024) rfl (by kernel_rfl) (by kernel_rfl) (by kernel_rfl) (fun _ _ _ h => h) (Or.inl ⟨by rfl, ?tky2024⟩) hH2023 ?tkr2024
          case tky2024 => (intro w' hSw; clear hSw; go_simp; try with_reducible rfl)
          try simp only [Act.put, List.setIfInBounds_toArray, List.set_cons_zero, List.set_cons_succ]
          refine wpAnyH_done (by kernel_rfl) ?_ _
          refine NoPanic.normal ?_
          go_wp2_with fail
          go_meet
          exact ⟨rfl, Lib.hid (hH2023)⟩
      · go_simp
        refine (good_any 1 wd).mono ?_
        rintro e' wg2025 ⟨Ag2025, cg2025, rfl, Rg2025, hbg2025⟩
        have hb2025 := hbg2025.out
        clear hbg2025
        have hr2025 := Lib.hid Rg2025.out.row
        clear Rg2025
        go_simp
        have hS2025 : (fun W => Below wB.heap.size wB W) wg2025 := (hH0).trans (hb2025.mono (hH0).size)
        refine hK.out _ _ hS2025 (fun hH2025 => ?_)
        clear hK K
        try simp only [Act.put, List.setIfInBounds_toArray, List.set_cons_zero, List.set_cons_succ]
        refine wpAnyH_ready (rs := [0, 6]) (by kernel_rfl) (by simp) ?_
        refine AllReadyH.cons (o := { dst := some 20, op := Op.load 30 (Operand.tmp 1), type := 30, pos := "law.go:22", after := #[], guard := none }) rfl (fun K hK => ?_) (AllReadyH.cons (o := { dst := some 5, op := Op.alloc 30, type := 0, pos := "law.go:22", after := #[], guard := none }) rfl (fun K hK => ?_) AllReadyH.nil)
        · rw [if_pos (by rfl)]
          have tb2026 := ((hH2025).block w3.heap.size LB.out).trans TB.out
          refine wp_load_row _ _ rfl w3.heap.size rfl _ _ _ _ tb2026 Try.underlying30 rfl (by kernel_rfl) ?_
          clear tb2026
          have hS2026 : (fun W => Below wB.heap.size wB W) wg2025 := hH2025
          refine hK.out _ _ hS2026 (fun hH2026 => ?_)
          clear hK K
          try simp only [Act.put, List.setIfInBounds_toArray, List.set_cons_zero, List.set_cons_succ]
          refine wpAnyH_ready (rs := [2, 6]) (by kernel_rfl) (by simp) ?_
          refine AllReadyH.cons (o := { dst := some 22, op := Op.call { callee := Callee.value (Operand.func 16), args := #[Operand.tmp 20, Operand.tmp 21], argTypes := #[30, 28] }, type := 40, pos := "law.go:22", after := #[{ on := 0, ground := Ground.data }, { on := 1, ground := Ground.data }, { on := 1, ground := Ground.chain }], guard := none }) rfl (fun K hK => ?_) (AllReadyH.cons (o := { dst := some 5, op := Op.alloc 30, type := 0, pos := "law.go:22", after := #[], guard := none }) rfl (fun K hK => ?_) AllReadyH.nil)
          · go_simp
            refine (admit_et 0 0 1 1 3 D0 32 k0 0 0 D1 0 k1 1 2 3 2 0 D 32 kd wg2025.heap.size n32 [] n32 1 1 3 2 0 Ag2025 32 cg2025 n32 wg2025 aw_may2 aw_man aw_same1 aw_old ((RB0.out.below (hH2026)).more (hH2026).size) (Row.nil _ _ _) ((RBD.out.below (hH2026)).more (hH2026).size) hr2025.out (Nat.le_refl _)).mono ?_
            rintro e' wm2027 ⟨rfl, hb2027⟩
            go_simp
            have hS2027 : (fun W => Below wB.heap.size wB W) wm2027 := (hH2026).trans (hb2027.mono (hH2026).size)
            refine hK.out _ _ hS2027 (fun hH2027 => ?_)
            clear hK K
            try simp only [Act.put, List.setIfInBounds_toArray, List.set_cons_zero, List.set_cons_succ]
            refine wpAnyH_take (i := 3) (oi := { dst := some 19, op := Op.move (Operand.tmp 22), type := 40, pos := "law.go:22", after := #[{ on := 2, ground := Ground.data }], guard := none }) (v := ?tkv2028) rfl (by kernel_rfl) (by kernel_rfl) (by kernel_rfl) (fun _ _ _ h => h) (Or.inl ⟨by rfl, ?tky2028⟩) hH2027 ?tkr2028
            case tky2028 => (intro w' hSw; clear hSw; go_simp; try with_reducible rfl)
            try simp only [Act.put, List.setIfInBounds_toArray, List.set_cons_zero, List.set_cons_succ]
            refine wpAnyH_take (i := 4) (oi := { dst := some 23, op := Op.extract (Operand.tmp 19) 0, type := 30, pos := "law.go:22", after := #[{ on := 3, ground := Ground.data }], guard := none }) (v := ?tkv2029) rfl (by kernel_rfl) (by kernel_rfl) (by kernel_rfl) (fun _ _ _ h => h) (Or.inl ⟨by rfl, ?tky2029⟩) hH2027 ?tkr2029
            case tky2029 => (intro w' hSw; clear hSw; go_simp; try with_reducible rfl)
            try simp only [Act.put, List.setIfInBounds_toArray, List.set_cons_zero, List.set_cons_succ]
            refine wpAnyH_take (i := 5) (oi := { dst := some 24, op := Op.extract (Operand.tmp 19) 1, type := 33, pos := "law.go:22", after := #[{ on := 3, ground := Ground.data }, { on := 7, ground := Ground.gcOnly Departure.lateStores }], guard := none }) (v := ?tkv2030) rfl (by kernel_rfl) (by kernel_rfl) (by kernel_rfl) (fun _ _ _ h => h) (Or.inl ⟨by rfl, ?tky2030⟩) hH2027 ?tkr2030
            case tky2030 => (intro w' hSw; clear hSw; go_simp; try with_reducible rfl)
            try simp only [Act.put, List.setIfInBounds_toArray, List.set_cons_zero, List.set_cons_succ]
            refine wpAnyH_ready (rs := [6]) (by kernel_rfl) (by simp) ?_
            refine AllReadyH.cons (o := { dst := some 5, op := Op.alloc 30, type := 0, pos := "law.go:22", after := #[], guard := none }) rfl (fun K hK => ?_) AllReadyH.nil
            go_simp
            have hb2031 : Below wm2027.heap.size wm2027 (wm2027.alloc (.cells #[.int .i64 0, .int .i64 0, .int .u32 0, .int .u32 0, .int .u32 0, .int .i64 0, .slice none 0 0, .int .u32 0, .int .i64 0, .slice none 0 0, .bool false, .int .u32 0, .int .u32 0, .int .i64 0, .int .i64 0, .int .i64 0, .slice none 0 0] 30)) := (Below.refl _ _).alloc (Nat.le_refl _) _
            have hx2031 : Hid ((wm2027.alloc (.cells #[.int .i64 0, .int .i64 0, .int .u32 0, .int .u32 0, .int .u32 0, .int .i64 0, .slice none 0 0, .int .u32 0, .int .i64 0, .slice none 0 0, .bool false, .int .u32 0, .int .u32 0, .int .i64 0, .int .i64 0, .int .i64 0, .slice none 0 0] 30)).heap[wm2027.heap.size]? = some (.cells #[.int .i64 0, .int .i64 0, .int .u32 0, .int .u32 0, .int .u32 0, .int .i64 0, .slice none 0 0, .int .u32 0, .int .i64 0, .slice none 0 0, .bool false, .int .u32 0, .int .u32 0, .int .i64 0, .int .i64 0, .int .i64 0, .slice none 0 0] 30 (0, 0))) := Lib.hid (heap_alloc_new _ _)
            have hl2031 : Hid (wm2027.heap.size < (wm2027.alloc (.cells #[.int .i64 0, .int .i64 0, .int .u32 0, .int .u32 0, .int .u32 0, .int .i64 0, .slice none 0 0, .int .u32 0, .int .i64 0, .slice none 0 0, .bool false, .int .u32 0, .int .u32 0, .int .i64 0, .int .i64 0, .int .i64 0, .slice none 0 0] 30)).heap.size) := Lib.hid (by simp)
            have hg2031 : Hid (wB.heap.size ≤ wm2027.heap.size) := Lib.hid (hH2027).size
            generalize (wm2027.alloc (.cells #[.int .i64 0, .int .i64 0, .int .u32 0, .int .u32 0, .int .u32 0, .int .i64 0, .slice none 0 0, .int .u32 0, .int .i64 0, .slice none 0 0, .bool false, .int .u32 0, .int .u32 0, .int .i64 0, .int .i64 0, .int .i64 0, .slice none 0 0] 30)) = wz2031 at *
            have hS2031 : (fun W => Below wB.heap.size wB W) wz2031 := (hH2027).trans (hb2031.mono (hH2027).size)
            refine hK.out _ _ hS2031 (fun hH2031 => ?_)
            clear hK K
            try simp only [Act.put, List.setIfInBounds_toArray, List.set_cons_zero, List.set_cons_succ]
            refine wpAnyH_ready (rs := [7]) (by kernel_rfl) (by simp) ?_
            refine AllReadyH.cons (o := { dst := none, op := Op.store 30 (Operand.tmp 5) (Operand.tmp 23), type := 0, pos := "law.go:22", after := #[{ on := 6, ground := Ground.data }, { on := 4, ground := Ground.data }, { on := 2, ground := Ground.chain }, { on := 0, ground := Ground.phase }, { on := 1, ground := Ground.phase }, { on := 2, ground := Ground.phase }, { on := 3, ground := Ground.phase }, { on := 4, ground := Ground.phase }, { on := 5, ground := Ground.textOnly Departure.lateStores }, { on := 6, ground := Ground.phase }], guard := none }) rfl (fun K hK => ?_) AllReadyH.nil
            rw [if_pos (by rfl)]
            refine wp_store_row _ _ _ rfl wm2027.heap.size zState rfl rfl _ _ hx2031.out (by kernel_rfl) (by rfl) (by kernel_rfl) ?_
            have hS2032 : (fun W => Below wB.heap.size wB W) (wz2031.setRow wm2027.heap.size zState) := (below_setRow2 (hH2031) hg2031.out _)
            refine hK.out _ _ hS2032 (fun hH2032 => ?_)
            clear hK K
            try simp only [Act.put]
            refine wpAnyH_take (i := 8) (oi := { dst := some 6, op := Op.assign (Operand.tmp 24), type := 33, pos := "law.go:22", after := #[{ on := 5, ground := Ground.data }, { on := 7, ground := Ground.chain }, { on := 0, ground := Ground.phase }, { on := 1, ground := Ground.phase }, { on := 2, ground := Ground.phase }, { on := 3, ground := Ground.phase }, { on := 4, ground := Ground.phase }, { on := 5, ground := Ground.phase }, { on := 6, ground := Ground.phase }, { on := 7, ground := Ground.phase }], guard := none }) (v := ?tkv2033) rfl (by kernel_rfl) (by kernel_rfl) (by kernel_rfl) (fun _ _ _ h => h) (Or.inl ⟨by rfl, ?tky2033⟩) hH2032 ?tkr2033
            case tky2033 => (intro w' hSw; clear hSw; go_simp; try with_reducible rfl)
            try simp only [Act.put, List.setIfInBounds_toArray, List.set_cons_zero, List.set_cons_succ]
            refine wpAnyH_done (by kernel_rfl) ?_ _
            refine NoPanic.normal ?_
            go_wp2_with fail
            go_meet
            exact ⟨rfl, Lib.hid (hH2032)⟩
          · go_simp
            have hb2034 : Below wg2025.heap.size wg2025 (wg2025.alloc (.cells #[.int .i64 0, .int .i64 0, .int .u32 0, .int .u32 0, .int .u32 0, .int .i64 0, .slice none 0 0, .int .u32 0, .int .i64 0, .slice none 0 0, .bool false, .int .u32 0, .int .u32 0, .int .i64 0, .int .i64 0, .int .i64 0, .slice none 0 0] 30)) := (Below.refl _ _).alloc (Nat.le_refl _) _
            have hx2034 : Hid ((wg2025.alloc (.cells #[.int .i64 0, .int .i64 0, .int .u32 0, .int .u32 0, .int .u32 0, .int .i64 0, .slice none 0 0, .int .u32 0, .int .i64 0, .slice none 0 0, .bool false, .int .u32 0, .int .u32 0, .int .i64 0, .int .i64 0, .int .i64 0, .slice none 0 0] 30)).heap[wg2025.heap.size]? = some (.cells #[.int .i64 0, .int .i64 0, .int .u32 0, .int .u32 0, .int .u32 0, .int .i64 0, .slice none 0 0, .int .u32 0, .int .i64 0, .slice none 0 0, .bool false, .int .u32 0, .int .u32 0, .int .i64 0, .int .i64 0, .int .i64 0, .slice none 0 0] 30 (0, 0))) := Lib.hid (heap_alloc_new _ _)
            have hl2034 : Hid (wg2025.heap.size < (wg2025.alloc (.cells #[.int .i64 0, .int .i64 0, .int .u32 0, .int .u32 0, .int .u32 0, .int .i64 0, .slice none 0 0, .int .u32 0, .int .i64 0, .slice none 0 0, .bool false, .int .u32 0, .int .u32 0, .int .i64 0, .int .i64 0, .int .i64 0, .slice none 0 0] 30)).heap.size) := Lib.hid (by simp)
            have hg2034 : Hid (wB.heap.size ≤ wg2025.heap.size) := Lib.hid (hH2026).size
            have hr2034 := Lib.hid ((hr2025.out.below hb2034).more hb2034.size)
            generalize (wg2025.alloc (.cells #[.int .i64 0, .int .i64 0, .int .u32 0, .int .u32 0, .int .u32 0, .int .i64 0, .slice none 0 0, .int .u32 0, .int .i64 0, .slice none 0 0, .bool false, .int .u32 0, .int .u32 0, .int .i64 0, .int .i64 0, .int .i64 0, .slice none 0 0] 30)) = wz2034 at *
            have hS2034 : (fun W => Below wB.heap.size wB W) wz2034 := (hH2026).trans (hb2034.mono (hH2026).size)
            refine hK.out _ _ hS2034 (fun hH2034 => ?_)
            clear hK K
            try simp only [Act.put, List.setIfInBounds_toArray, List.set_cons_zero, List.set_cons_succ]
            refine wpAnyH_ready (rs := [2]) (by kernel_rfl) (by simp) ?_
            refine AllReadyH.cons (o := { dst := some 22, op := Op.call { callee := Callee.value (Operand.func 16), args := #[Operand.tmp 20, Operand.tmp 21], argTypes := #[30, 28] }, type := 40, pos := "law.go:22", after := #[{ on := 0, ground := Ground.data }, { on := 1, ground := Ground.data }, { on := 1, ground := Ground.chain }], guard := none }) rfl (fun K hK => ?_) AllReadyH.nil
            go_simp
            refine (admit_et 0 0 1 1 3 D0 32 k0 0 0 D1 0 k1 1 2 3 2 0 D 32 kd wz2034.heap.size n32 [] n32 1 1 3 2 0 Ag2025 32 cg2025 n32 wz2034 aw_may2 aw_man aw_same1 aw_old ((RB0.out.below (hH2034)).more (hH2034).size) (Row.nil _ _ _) ((RBD.out.below (hH2034)).more (hH2034).size) hr2034.out (Nat.le_refl _)).mono ?_
            rintro e' wm2035 ⟨rfl, hb2035⟩
            have hx2035 := Lib.hid ((hb2035.block wg2025.heap.size hl2034.out).trans hx2034.out)
            have hl2035 := Lib.hid (Nat.lt_of_lt_of_le hl2034.out hb2035.size)
            go_simp
            have hS2035 : (fun W => Below wB.heap.size wB W) wm2035 := (hH2034).trans (hb2035.mono (hH2034).size)
            refine hK.out _ _ hS2035 (fun hH2035 => ?_)
            clear hK K
            try simp only [Act.put, List.setIfInBounds_toArray, List.set_cons_zero, List.set_cons_succ]
            refine wpAnyH_take (i := 3) (oi := { dst := some 19, op := Op.move (Operand.tmp 22), type := 40, pos := "law.go:22", after := #[{ on := 2, ground := Ground.data }], guard := none }) (v := ?tkv2036) rfl (by kernel_rfl) (by kernel_rfl) (by kernel_rfl) (fun _ _ _ h => h) (Or.inl ⟨by rfl, ?tky2036⟩) hH2035 ?tkr2036
            case tky2036 => (intro w' hSw; clear hSw; go_simp; try with_reducible rfl)
            try simp only [Act.put, List.setIfInBounds_toArray, List.set_cons_zero, List.set_cons_succ]
            refine wpAnyH_take (i := 4) (oi := { dst := some 23, op := Op.extract (Operand.tmp 19) 0, type := 30, pos := "law.go:22", after := #[{ on := 3, ground := Ground.data }], guard := none }) (v := ?tkv2037) rfl (by kernel_rfl) (by kernel_rfl) (by kernel_rfl) (fun _ _ _ h => h) (Or.inl ⟨by rfl, ?tky2037⟩) hH2035 ?tkr2037
            case tky2037 => (intro w' hSw; clear hSw; go_simp; try with_reducible rfl)
            try simp only [Act.put, List.setIfInBounds_toArray, List.set_cons_zero, List.set_cons_succ]
            refine wpAnyH_take (i := 5) (oi := { dst := some 24, op := Op.extract (Operand.tmp 19) 1, type := 33, pos := "law.go:22", after := #[{ on := 3, ground := Ground.data }, { on := 7, ground := Ground.gcOnly Departure.lateStores }], guard := none }) (v := ?tkv2038) rfl (by kernel_rfl) (by kernel_rfl) (by kernel_rfl) (fun _ _ _ h => h) (Or.inl ⟨by rfl, ?tky2038⟩) hH2035 ?tkr2038
            case tky2038 => (intro w' hSw; clear hSw; go_simp; try with_reducible rfl)
            try simp only [Act.put, List.setIfInBounds_toArray, List.set_cons_zero, List.set_cons_succ]
            refine wpAnyH_ready (rs := [7]) (by kernel_rfl) (by simp) ?_
            refine AllReadyH.cons (o := { dst := none, op := Op.store 30 (Operand.tmp 5) (Operand.tmp 23), type := 0, pos := "law.go:22", after := #[{ on := 6, ground := Ground.data }, { on := 4, ground := Ground.data }, { on := 2, ground := Ground.chain }, { on := 0, ground := Ground.phase }, { on := 1, ground := Ground.phase }, { on := 2, ground := Ground.phase }, { on := 3, ground := Ground.phase }, { on := 4, ground := Ground.phase }, { on := 5, ground := Ground.textOnly Departure.lateStores }, { on := 6, ground := Ground.phase }], guard := none }) rfl (fun K hK => ?_) AllReadyH.nil
            rw [if_pos (by rfl)]
            refine wp_store_row _ _ _ rfl wg2025.heap.size zState rfl rfl _ _ hx2035.out (by kernel_rfl) (by rfl) (by kernel_rfl) ?_
            have hS2039 : (fun W => Below wB.heap.size wB W) (wm2035.setRow wg2025.heap.size zState) := (below_setRow2 (hH2035) hg2034.out _)
            refine hK.out _ _ hS2039 (fun hH2039 => ?_)
            clear hK K
            try simp only [Act.put]
            refine wpAnyH_take (i := 8) (oi := { dst := some 6, op := Op.assign (Operand.tmp 24), type := 33, pos := "law.go:22", after := #[{ on := 5, ground := Ground.data }, { on := 7, ground := Ground.chain }, { on := 0, ground := Ground.phase }, { on := 1, ground := Ground.phase }, { on := 2, ground := Ground.phase }, { on := 3, ground := Ground.phase }, { on := 4, ground := Ground.phase }, { on := 5, ground := Ground.phase }, { on := 6, ground := Ground.phase }, { on := 7, ground := Ground.phase }], guard := none }) (v := ?tkv2040) rfl (by kernel_rfl) (by kernel_rfl) (by kernel_rfl) (fun _ _ _ h => h) (Or.inl ⟨by rfl, ?tky2040⟩) hH2039 ?tkr2040
            case tky2040 => (intro w' hSw; clear hSw; go_simp; try with_reducible rfl)
            try simp only [Act.put, List.setIfInBounds_toArray, List.set_cons_zero, List.set_cons_succ]
            refine wpAnyH_done (by kernel_rfl) ?_ _
            refine NoPanic.normal ?_
            go_wp2_with fail
            go_meet
            exact ⟨rfl, Lib.hid (hH2039)⟩
        · go_simp
          have hb2041 : Below wg2025.heap.size wg2025 (wg2025.alloc (.cells #[.int .i64 0, .int .i64 0, .int .u32 0, .int .u32 0, .int .u32 0, .int .i64 0, .slice none 0 0, .int .u32 0, .int .i64 0, .slice none 0 0, .bool false, .int .u32 0, .int .u32 0, .int .i64 0, .int .i64 0, .int .i64 0, .slice none 0 0] 30)) := (Below.refl _ _).alloc (Nat.le_refl _) _
          have hx2041 : Hid ((wg2025.alloc (.cells #[.int .i64 0, .int .i64 0, .int .u32 0, .int .u32 0, .int .u32 0, .int .i64 0, .slice none 0 0, .int .u32 0, .int .i64 0, .slice none 0 0, .bool false, .int .u32 0, .int .u32 0, .int .i64 0, .int .i64 0, .int .i64 0, .slice none 0 0] 30)).heap[wg2025.heap.size]? = some (.cells #[.int .i64 0, .int .i64 0, .int .u32 0, .int .u32 0, .int .u32 0, .int .i64 0, .slice none 0 0, .int .u32 0, .int .i64 0, .slice none 0 0, .bool false, .int .u32 0, .int .u32 0, .int .i64 0, .int .i64 0, .int .i64 0, .slice none 0 0] 30 (0, 0))) := Lib.hid (heap_alloc_new _ _)
          have hl2041 : Hid (wg2025.heap.size < (wg2025.alloc (.cells #[.int .i64 0, .int .i64 0, .int .u32 0, .int .u32 0, .int .u32 0, .int .i64 0, .slice none 0 0, .int .u32 0, .int .i64 0, .slice none 0 0, .bool false, .int .u32 0, .int .u32 0, .int .i64 0, .int .i64 0, .int .i64 0, .slice none 0 0] 30)).heap.size) := Lib.hid (by simp)
          have hg2041 : Hid (wB.heap.size ≤ wg2025.heap.size) := Lib.hid (hH2025).size
          have hr2041 := Lib.hid ((hr2025.out.below hb2041).more hb2041.size)
          generalize (wg2025.alloc (.cells #[.int .i64 0, .int .i64 0, .int .u32 0, .int .u32 0, .int .u32 0, .int .i64 0, .slice none 0 0, .int .u32 0, .int .i64 0, .slice none 0 0, .bool false, .int .u32 0, .int .u32 0, .int .i64 0, .int .i64 0, .int .i64 0, .slice none 0 0] 30)) = wz2041 at *
          have hS2041 : (fun W => Below wB.heap.size wB W) wz2041 := (hH2025).trans (hb2041.mono (hH2025).size)
          refine hK.out _ _ hS2041 (fun hH2041 => ?_)
          clear hK K
          try simp only [Act.put, List.setIfInBounds_toArray, List.set_cons_zero, List.set_cons_succ]
          refine wpAnyH_ready (rs := [0]) (by kernel_rfl) (by simp) ?_
          refine AllReadyH.cons (o := { dst := some 20, op := Op.load 30 (Operand.tmp 1), type := 30, pos := "law.go:22", after := #[], guard := none }) rfl (fun K hK => ?_) AllReadyH.nil
          rw [if_pos (by rfl)]
          have tb2042 := ((hH2041).block w3.heap.size LB.out).trans TB.out
          refine wp_load_row _ _ rfl w3.heap.size rfl _ _ _ _ tb2042 Try.underlying30 rfl (by kernel_rfl) ?_
          clear tb2042
          have hS2042 : (fun W => Below wB.heap.size wB W) wz2041 := hH2041
          refine hK.out _ _ hS2042 (fun hH2042 => ?_)
          clear hK K
          try simp only [Act.put, List.setIfInBounds_toArray, List.set_cons_zero, List.set_cons_succ]
          refine wpAnyH_ready (rs := [2]) (by kernel_rfl) (by simp) ?_
          refine AllReadyH.cons (o := { dst := some 22, op := Op.call { callee := Callee.value (Operand.func 16), args := #[Operand.tmp 20, Operand.tmp 21], argTypes := #[30, 28] }, type := 40, pos := "law.go:22", after := #[{ on := 0, ground := Ground.data }, { on := 1, ground := Ground.data }, { on := 1, ground := Ground.chain }], guard := none }) rfl (fun K hK => ?_) AllReadyH.nil
          go_simp
          refine (admit_et 0 0 1 1 3 D0 32 k0 0 0 D1 0 k1 1 2 3 2 0 D 32 kd wz2041.heap.size n32 [] n32 1 1 3 2 0 Ag2025 32 cg2025 n32 wz2041 aw_may2 aw_man aw_same1 aw_old ((RB0.out.below (hH2042)).more (hH2042).size) (Row.nil _ _ _) ((RBD.out.below (hH2042)).more (hH2042).size) hr2041.out (Nat.le_refl _)).mono ?_
          rintro e' wm2043 ⟨rfl, hb2043⟩
          have hx2043 := Lib.hid ((hb2043.block wg2025.heap.size hl2041.out).trans hx2041.out)
          have hl2043 := Lib.hid (Nat.lt_of_lt_of_le hl2041.out hb2043.size)
          go_simp
          have hS2043 : (fun W => Below wB.heap.size wB W) wm2043 := (hH2042).trans (hb2043.mono (hH2042).size)
          refine hK.out _ _ hS2043 (fun hH2043 => ?_)
          clear hK K
          try simp only [Act.put, List.setIfInBounds_toArray, List.set_cons_zero, List.set_cons_succ]
          refine wpAnyH_take (i := 3) (oi := { dst := some 19, op := Op.move (Operand.tmp 22), type := 40, pos := "law.go:22", after := #[{ on := 2, ground := Ground.data }], guard := none }) (v := ?tkv2044) rfl (by kernel_rfl) (by kernel_rfl) (by kernel_rfl) (fun _ _ _ h => h) (Or.inl ⟨by rfl, ?tky2044⟩) hH2043 ?tkr2044
          case tky2044 => (intro w' hSw; clear hSw; go_simp; try with_reducible rfl)
          try simp only [Act.put, List.setIfInBounds_toArray, List.set_cons_zero, List.set_cons_succ]
          refine wpAnyH_take (i := 4) (oi := { dst := some 23, op := Op.extract (Operand.tmp 19) 0, type := 30, pos := "law.go:22", after := #[{ on := 3, ground := Ground.data }], guard := none }) (v := ?tkv2045) rfl (by kernel_rfl) (by kernel_rfl) (by kernel_rfl) (fun _ _ _ h => h) (Or.inl ⟨by rfl, ?tky2045⟩) hH2043 ?tkr2045
          case tky2045 => (intro w' hSw; clear hSw; go_simp; try with_reducible rfl)
          try simp only [Act.put, List.setIfInBounds_toArray, List.set_cons_zero, List.set_cons_succ]
          refine wpAnyH_take (i := 5) (oi := { dst := some 24, op := Op.extract (Operand.tmp 19) 1, type := 33, pos := "law.go:22", after := #[{ on := 3, ground := Ground.data }, { on := 7, ground := Ground.gcOnly Departure.lateStores }], guard := none }) (v := ?tkv2046) rfl (by kernel_rfl) (by kernel_rfl) (by kernel_rfl) (fun _ _ _ h => h) (Or.inl ⟨by rfl, ?tky2046⟩) hH2043 ?tkr2046
          case tky2046 => (intro w' hSw; clear hSw; go_simp; try with_reducible rfl)
          try simp only [Act.put, List.setIfInBounds_toArray, List.set_cons_zero, List.set_cons_succ]
          refine wpAnyH_ready (rs := [7]) (by kernel_rfl) (by simp) ?_
          refine AllReadyH.cons (o := { dst := none, op := Op.store 30 (Operand.tmp 5) (Operand.tmp 23), type := 0, pos := "law.go:22", after := #[{ on := 6, ground := Ground.data }, { on := 4, ground := Ground.data }, { on := 2, ground := Ground.chain }, { on := 0, ground := Ground.phase }, { on := 1, ground := Ground.phase }, { on := 2, ground := Ground.phase }, { on := 3, ground := Ground.phase }, { on := 4, ground := Ground.phase }, { on := 5, ground := Ground.textOnly Departure.lateStores }, { on := 6, ground := Ground.phase }], guard := none }) rfl (fun K hK => ?_) AllReadyH.nil
          rw [if_pos (by rfl)]
          refine wp_store_row _ _ _ rfl wg2025.heap.size zState rfl rfl _ _ hx2043.out (by kernel_rfl) (by rfl) (by kernel_rfl) ?_
          have hS2047 : (fun W => Below wB.heap.size wB W) (wm2043.setRow wg2025.heap.size zState) := (below_setRow2 (hH2043) hg2041.out _)
          refine hK.out _ _ hS2047 (fun hH2047 => ?_)
          clear hK K
          try simp only [Act.put]
          refine wpAnyH_take (i := 8) (oi := { dst := some 6, op := Op.assign (Operand.tmp 24), type := 33, pos := "law.go:22", after := #[{ on := 5, ground := Ground.data }, { on := 7, ground := Ground.chain }, { on := 0, ground := Ground.phase }, { on := 1, ground := Ground.phase }, { on := 2, ground := Ground.phase }, { on := 3, ground := Ground.phase }, { on := 4, ground := Ground.phase }, { on := 5, ground := Ground.phase }, { on := 6, ground := Ground.phase }, { on := 7, ground := Ground.phase }], guard := none }) (v := ?tkv2048) rfl (by kernel_rfl) (by kernel_rfl) (by kernel_rfl) (fun _ _ _ h => h) (Or.inl ⟨by rfl, ?tky2048⟩) hH2047 ?tkr2048
          case tky2048 => (intro w' hSw; clear hSw; go_simp; try with_reducible rfl)
          try simp only [Act.put, List.setIfInBounds_toArray, List.set_cons_zero, List.set_cons_succ]
          refine wpAnyH_done (by kernel_rfl) ?_ _
          refine NoPanic.normal ?_
          go_wp2_with fail
          go_meet
          exact ⟨rfl, Lib.hid (hH2047)⟩
      · go_simp
        have hb2049 : Below wd.heap.size wd (wd.alloc (.cells #[.int .i64 0, .int .i64 0, .int .u32 0, .int .u32 0, .int .u32 0, .int .i64 0, .slice none 0 0, .int .u32 0, .int .i64 0, .slice none 0 0, .bool false, .int .u32 0, .int .u32 0, .int .i64 0, .int .i64 0, .int .i64 0, .slice none 0 0] 30)) := (Below.refl _ _).alloc (Nat.le_refl _) _
        have hx2049 : Hid ((wd.alloc (.cells #[.int .i64 0, .int .i64 0, .int .u32 0, .int .u32 0, .int .u32 0, .int .i64 0, .slice none 0 0, .int .u32 0, .int .i64 0, .slice none 0 0, .bool false, .int .u32 0, .int .u32 0, .int .i64 0, .int .i64 0, .int .i64 0, .slice none 0 0] 30)).heap[wd.heap.size]? = some (.cells #[.int .i64 0, .int .i64 0, .int .u32 0, .int .u32 0, .int .u32 0, .int .i64 0, .slice none 0 0, .int .u32 0, .int .i64 0, .slice none 0 0, .bool false, .int .u32 0, .int .u32 0, .int .i64 0, .int .i64 0, .int .i64 0, .slice none 0 0] 30 (0, 0))) := Lib.hid (heap_alloc_new _ _)
        have hl2049 : Hid (wd.heap.size < (wd.alloc (.cells #[.int .i64 0, .int .i64 0, .int .u32 0, .int .u32 0, .int .u32 0, .int .i64 0, .slice none 0 0, .int .u32 0, .int .i64 0, .slice none 0 0, .bool false, .int .u32 0, .int .u32 0, .int .i64 0, .int .i64 0, .int .i64 0, .slice none 0 0] 30)).heap.size) := Lib.hid (by simp)
        have hg2049 : Hid (wB.heap.size ≤ wd.heap.size) := Lib.hid (hH0).size
        generalize (wd.alloc (.cells #[.int .i64 0, .int .i64 0, .int .u32 0, .int .u32 0, .int .u32 0, .int .i64 0, .slice none 0 0, .int .u32 0, .int .i64 0, .slice none 0 0, .bool false, .int .u32 0, .int .u32 0, .int .i64 0, .int .i64 0, .int .i64 0, .slice none 0 0] 30)) = wz2049 at *
        have hS2049 : (fun W => Below wB.heap.size wB W) wz2049 := (hH0).trans (hb2049.mono (hH0).size)
        refine hK.out _ _ hS2049 (fun hH2049 => ?_)
        clear hK K
        try simp only [Act.put, List.setIfInBounds_toArray, List.set_cons_zero, List.set_cons_succ]
        refine wpAnyH_ready (rs := [0, 1]) (by kernel_rfl) (by simp) ?_
        refine AllReadyH.cons (o := { dst := some 20, op := Op.load 30 (Operand.tmp 1), type := 30, pos := "law.go:22", after := #[], guard := none }) rfl (fun K hK => ?_) (AllReadyH.cons (o := { dst := some 21, op := Op.call { callee := Callee.value (Operand.func 42), args := #[Operand.const (Value.int IntKind.u32 1)], argTypes := #[22] }, type := 28, pos := "law.go:22", after := #[], guard := none }) rfl (fun K hK => ?_) AllReadyH.nil)
        · rw [if_pos (by rfl)]
          have tb2050 := ((hH2049).block w3.heap.size LB.out).trans TB.out
          refine wp_load_row _ _ rfl w3.heap.size rfl _ _ _ _ tb2050 Try.underlying30 rfl (by kernel_rfl) ?_
          clear tb2050
          have hS2050 : (fun W => Below wB.heap.size wB W) wz2049 := hH2049
          refine hK.out _ _ hS2050 (fun hH2050 => ?_)
          clear hK K
          try simp only [Act.put, List.setIfInBounds_toArray, List.set_cons_zero, List.set_cons_succ]
          refine wpAnyH_ready (rs := [1]) (by kernel_rfl) (by simp) ?_
          refine AllReadyH.cons (o := { dst := some 21, op := Op.call { callee := Callee.value (Operand.func 42), args := #[Operand.const (Value.int IntKind.u32 1)], argTypes := #[22] }, type := 28, pos := "law.go:22", after := #[], guard := none }) rfl (fun K hK => ?_) AllReadyH.nil
          go_simp
          refine (good_any 1 wz2049).mono ?_
          rintro e' wg2051 ⟨Ag2051, cg2051, rfl, Rg2051, hbg2051⟩
          have hb2051 := hbg2051.out
          clear hbg2051
          have hr2051 := Lib.hid Rg2051.out.row
          clear Rg2051
          have hx2051 := Lib.hid ((hb2051.block wd.heap.size hl2049.out).trans hx2049.out)
          have hl2051 := Lib.hid (Nat.lt_of_lt_of_le hl2049.out hb2051.size)
          go_simp
          have hS2051 : (fun W => Below wB.heap.size wB W) wg2051 := (hH2050).trans (hb2051.mono (hH2050).size)
          refine hK.out _ _ hS2051 (fun hH2051 => ?_)
          clear hK K
          try simp only [Act.put, List.setIfInBounds_toArray, List.set_cons_zero, List.set_cons_succ]
          refine wpAnyH_ready (rs := [2]) (by kernel_rfl) (by simp) ?_
          refine AllReadyH.cons (o := { dst := some 22, op := Op.call { callee := Callee.value (Operand.func 16), args := #[Operand.tmp 20, Operand.tmp 21], argTypes := #[30, 28] }, type := 40, pos := "law.go:22", after := #[{ on := 0, ground := Ground.data }, { on := 1, ground := Ground.data }, { on := 1, ground := Ground.chain }], guard := none }) rfl (fun K hK => ?_) AllReadyH.nil
          go_simp
          refine (admit_et 0 0 1 1 3 D0 32 k0 0 0 D1 0 k1 1 2 3 2 0 D 32 kd wg2051.heap.size n32 [] n32 1 1 3 2 0 Ag2051 32 cg2051 n32 wg2051 aw_may2 aw_man aw_same1 aw_old ((RB0.out.below (hH2051)).more (hH2051).size) (Row.nil _ _ _) ((RBD.out.below (hH2051)).more (hH2051).size) hr2051.out (Nat.le_refl _)).mono ?_
          rintro e' wm2052 ⟨rfl, hb2052⟩
          have hx2052 := Lib.hid ((hb2052.block wd.heap.size hl2051.out).trans hx2051.out)
          have hl2052 := Lib.hid (Nat.lt_of_lt_of_le hl2051.out hb2052.size)
          go_simp
          have hS2052 : (fun W => Below wB.heap.size wB W) wm2052 := (hH2051).trans (hb2052.mono (hH2051).size)
          refine hK.out _ _ hS2052 (fun hH2052 => ?_)
          clear hK K
          try simp only [Act.put, List.setIfInBounds_toArray, List.set_cons_zero, List.set_cons_succ]
          refine wpAnyH_take (i := 3) (oi := { dst := some 19, op := Op.move (Operand.tmp 22), type := 40, pos := "law.go:22", after := #[{ on := 2, ground := Ground.data }], guard := none }) (v := ?tkv2053) rfl (by kernel_rfl) (by kernel_rfl) (by kernel_rfl) (fun _ _ _ h => h) (Or.inl ⟨by rfl, ?tky2053⟩) hH2052 ?tkr2053
          case tky2053 => (intro w' hSw; clear hSw; go_simp; try with_reducible rfl)
          try simp only [Act.put, List.setIfInBounds_toArray, List.set_cons_zero, List.set_cons_succ]
          refine wpAnyH_take (i := 4) (oi := { dst := some 23, op := Op.extract (Operand.tmp 19) 0, type := 30, pos := "law.go:22", after := #[{ on := 3, ground := Ground.data }], guard := none }) (v := ?tkv2054) rfl (by kernel_rfl) (by kernel_rfl) (by kernel_rfl) (fun _ _ _ h => h) (Or.inl ⟨by rfl, ?tky2054⟩) hH2052 ?tkr2054
          case tky2054 => (intro w' hSw; clear hSw; go_simp; try with_reducible rfl)
          try simp only [Act.put, List.setIfInBounds_toArray, List.set_cons_zero, List.set_cons_succ]
          refine wpAnyH_take (i := 5) (oi := { dst := some 24, op := Op.extract (Operand.tmp 19) 1, type := 33, pos := "law.go:22", after := #[{ on := 3, ground := Ground.data }, { on := 7, ground := Ground.gcOnly Departure.lateStores }], guard := none }) (v := ?tkv2055) rfl (by kernel_rfl) (by kernel_rfl) (by kernel_rfl) (fun _ _ _ h => h) (Or.inl ⟨by rfl, ?tky2055⟩) hH2052 ?tkr2055
          case tky2055 => (intro w' hSw; clear hSw; go_simp; try with_reducible rfl)
          try simp only [Act.put, List.setIfInBounds_toArray, List.set_cons_zero, List.set_cons_succ]
          refine wpAnyH_ready (rs := [7]) (by kernel_rfl) (by simp) ?_
          refine AllReadyH.cons (o := { dst := none, op := Op.store 30 (Operand.tmp 5) (Operand.tmp 23), type := 0, pos := "law.go:22", after := #[{ on := 6, ground := Ground.data }, { on := 4, ground := Ground.data }, { on := 2, ground := Ground.chain }, { on := 0, ground := Ground.phase }, { on := 1, ground := Ground.phase }, { on := 2, ground := Ground.phase }, { on := 3, ground := Ground.phase }, { on := 4, ground := Ground.phase }, { on := 5, ground := Ground.textOnly Departure.lateStores }, { on := 6, ground := Ground.phase }], guard := none }) rfl (fun K hK => ?_) AllReadyH.nil
          rw [if_pos (by rfl)]
          refine wp_store_row _ _ _ rfl wd.heap.size zState rfl rfl _ _ hx2052.out (by kernel_rfl) (by rfl) (by kernel_rfl) ?_
          have hS2056 : (fun W => Below wB.heap.size wB W) (wm2052.setRow wd.heap.size zState) := (below_setRow2 (hH2052) hg2049.out _)
          refine hK.out _ _ hS2056 (fun hH2056 => ?_)
          clear hK K
          try simp only [Act.put]
          refine wpAnyH_take (i := 8) (oi := { dst := some 6, op := Op.assign (Operand.tmp 24), type := 33, pos := "law.go:22", after := #[{ on := 5, ground := Ground.data }, { on := 7, ground := Ground.chain }, { on := 0, ground := Ground.phase }, { on := 1, ground := Ground.phase }, { on := 2, ground := Ground.phase }, { on := 3, ground := Ground.phase }, { on := 4, ground := Ground.phase }, { on := 5, ground := Ground.phase }, { on := 6, ground := Ground.phase }, { on := 7, ground := Ground.phase }], guard := none }) (v := ?tkv2057) rfl (by kernel_rfl) (by kernel_rfl) (by kernel_rfl) (fun _ _ _ h => h) (Or.inl ⟨by rfl, ?tky2057⟩) hH2056 ?tkr2057
          case tky2057 => (intro w' hSw; clear hSw; go_simp; try with_reducible rfl)
          try simp only [Act.put, List.setIfInBounds_toArray, List.set_cons_zero, List.set_cons_succ]
          refine wpAnyH_done (by kernel_rfl) ?_ _
          refine NoPanic.normal ?_
          go_wp2_with fail
          go_meet
          exact ⟨rfl, Lib.hid (hH2056)⟩
        · go_simp
          refine (good_any 1 wz2049).mono ?_
          rintro e' wg2058 ⟨Ag2058, cg2058, rfl, Rg2058, hbg2058⟩
          have hb2058 := hbg2058.out
          clear hbg2058
          have hr2058 := Lib.hid Rg2058.out.row
          clear Rg2058
          have hx2058 := Lib.hid ((hb2058.block wd.heap.size hl2049.out).trans hx2049.out)
          have hl2058 := Lib.hid (Nat.lt_of_lt_of_le hl2049.out hb2058.size)
          go_simp
          have hS2058 : (fun W => Below wB.heap.size wB W) wg2058 := (hH2049).trans (hb2058.mono (hH2049).size)
          refine hK.out _ _ hS2058 (fun hH2058 => ?_)
          clear hK K
          try simp only [Act.put, List.setIfInBounds_toArray, List.set_cons_zero, List.set_cons_succ]
          refine wpAnyH_ready (rs := [0]) (by kernel_rfl) (by simp) ?_
          refine AllReadyH.cons (o := { dst := some 20, op := Op.load 30 (Operand.tmp 1), type := 30, pos := "law.go:22", after := #[], guard := none }) rfl (fun K hK => ?_) AllReadyH.nil
          rw [if_pos (by rfl)]
          have tb2059 := ((hH2058).block w3.heap.size LB.out).trans TB.out
          refine wp_load_row _ _ rfl w3.heap.size rfl _ _ _ _ tb2059 Try.underlying30 rfl (by kernel_rfl) ?_
          clear tb2059
          have hS2059 : (fun W => Below wB.heap.size wB W) wg2058 := hH2058
          refine hK.out _ _ hS2059 (fun hH2059 => ?_)
          clear hK K
          try simp only [Act.put, List.setIfInBounds_toArray, List.set_cons_zero, List.set_cons_succ]
          refine wpAnyH_ready (rs := [2]) (by kernel_rfl) (by simp) ?_
          refine AllReadyH.cons (o := { dst := some 22, op := Op.call { callee := Callee.value (Operand.func 16), args := #[Operand.tmp 20, Operand.tmp 21], argTypes := #[30, 28] }, type := 40, pos := "law.go:22", after := #[{ on := 0, ground := Ground.data }, { on := 1, ground := Ground.data }, { on := 1, ground := Ground.chain }], guard := none }) rfl (fun K hK => ?_) AllReadyH.nil
          go_simp
          refine (admit_et 0 0 1 1 3 D0 32 k0 0 0 D1 0 k1 1 2 3 2 0 D 32 kd wg2058.heap.size n32 [] n32 1 1 3 2 0 Ag2058 32 cg2058 n32 wg2058 aw_may2 aw_man aw_same1 aw_old ((RB0.out.below (hH2059)).more (hH2059).size) (Row.nil _ _ _) ((RBD.out.below (hH2059)).more (hH2059).size) hr2058.out (Nat.le_refl _)).mono ?_
          rintro e' wm2060 ⟨rfl, hb2060⟩
          have hx2060 := Lib.hid ((hb2060.block wd.heap.size hl2058.out).trans hx2058.out)
          have hl2060 := Lib.hid (Nat.lt_of_lt_of_le hl2058.out hb2060.size)
          go_simp
          have hS2060 : (fun W => Below wB.heap.size wB W) wm2060 := (hH2059).trans (hb2060.mono (hH2059).size)
          refine hK.out _ _ hS2060 (fun hH2060 => ?_)
          clear hK K
          try simp only [Act.put, List.setIfInBounds_toArray, List.set_cons_zero, List.set_cons_succ]
          refine wpAnyH_take (i := 3) (oi := { dst := some 19, op := Op.move (Operand.tmp 22), type := 40, pos := "law.go:22", after := #[{ on := 2, ground := Ground.data }], guard := none }) (v := ?tkv2061) rfl (by kernel_rfl) (by kernel_rfl) (by kernel_rfl) (fun _ _ _ h => h) (Or.inl ⟨by rfl, ?tky2061⟩) hH2060 ?tkr2061
          case tky2061 => (intro w' hSw; clear hSw; go_simp; try with_reducible rfl)
          try simp only [Act.put, List.setIfInBounds_toArray, List.set_cons_zero, List.set_cons_succ]
          refine wpAnyH_take (i := 4) (oi := { dst := some 23, op := Op.extract (Operand.tmp 19) 0, type := 30, pos := "law.go:22", after := #[{ on := 3, ground := Ground.data }], guard := none }) (v := ?tkv2062) rfl (by kernel_rfl) (by kernel_rfl) (by kernel_rfl) (fun _ _ _ h => h) (Or.inl ⟨by rfl, ?tky2062⟩) hH2060 ?tkr2062
          case tky2062 => (intro w' hSw; clear hSw; go_simp; try with_reducible rfl)
          try simp only [Act.put, List.setIfInBounds_toArray, List.set_cons_zero, List.set_cons_succ]
          refine wpAnyH_take (i := 5) (oi := { dst := some 24, op := Op.extract (Operand.tmp 19) 1, type := 33, pos := "law.go:22", after := #[{ on := 3, ground := Ground.data }, { on := 7, ground := Ground.gcOnly Departure.lateStores }], guard := none }) (v := ?tkv2063) rfl (by kernel_rfl) (by kernel_rfl) (by kernel_rfl) (fun _ _ _ h => h) (Or.inl ⟨by rfl, ?tky2063⟩) hH2060 ?tkr2063
          case tky2063 => (intro w' hSw; clear hSw; go_simp; try with_reducible rfl)
          try simp only [Act.put, List.setIfInBounds_toArray, List.set_cons_zero, List.set_cons_succ]
          refine wpAnyH_ready (rs := [7]) (by kernel_rfl) (by simp) ?_
          refine AllReadyH.cons (o := { dst := none, op := Op.store 30 (Operand.tmp 5) (Operand.tmp 23), type := 0, pos := "law.go:22", after := #[{ on := 6, ground := Ground.data }, { on := 4, ground := Ground.data }, { on := 2, ground := Ground.chain }, { on := 0, ground := Ground.phase }, { on := 1, ground := Ground.phase }, { on := 2, ground := Ground.phase }, { on := 3, ground := Ground.phase }, { on := 4, ground := Ground.phase }, { on := 5, ground := Ground.textOnly Departure.lateStores }, { on := 6, ground := Ground.phase }], guard := none }) rfl (fun K hK => ?_) AllReadyH.nil
          rw [if_pos (by rfl)]
          refine wp_store_row _ _ _ rfl wd.heap.size zState rfl rfl _ _ hx2060.out (by kernel_rfl) (by rfl) (by kernel_rfl) ?_
          have hS2064 : (fun W => Below wB.heap.size wB W) (wm2060.setRow wd.heap.size zState) := (below_setRow2 (hH2060) hg2049.out _)
          refine hK.out _ _ hS2064 (fun hH2064 => ?_)
          clear hK K
          try simp only [Act.put]
          refine wpAnyH_take (i := 8) (oi := { dst := some 6, op := Op.assign (Operand.tmp 24), type := 33, pos := "law.go:22", after := #[{ on := 5, ground := Ground.data }, { on := 7, ground := Ground.chain }, { on := 0, ground := Ground.phase }, { on := 1, ground := Ground.phase }, { on := 2, ground := Ground.phase }, { on := 3, ground := Ground.phase }, { on := 4, ground := Ground.phase }, { on := 5, ground := Ground.phase }, { on := 6, ground := Ground.phase }, { on := 7, ground := Ground.phase }], guard := none }) (v := ?tkv2065) rfl (by kernel_rfl) (by kernel_rfl) (by kernel_rfl) (fun _ _ _ h => h) (Or.inl ⟨by rfl, ?tky2065⟩) hH2064 ?tkr2065
          case tky2065 => (intro w' hSw; clear hSw; go_simp; try with_reducible rfl)
          try simp only [Act.put, List.setIfInBounds_toArray, List.set_cons_zero, List.set_cons_succ]
          refine wpAnyH_done (by kernel_rfl) ?_ _
          refine NoPanic.normal ?_
          go_wp2_with fail
          go_meet
          exact ⟨rfl, Lib.hid (hH2064)⟩
    case rest =>
      obtain ⟨rfl, hbx⟩ := hcut
      have TC := Lib.hid ((hbx.out.block w3.heap.size LB.out).trans TB.out)
      have HBC : Hid (Below w.heap.size w wc) := Lib.hid (HBB.out.trans (hbx.out.mono HBB.out.size))
      obtain ⟨z5, z3⟩ := bx53 TC.out
      clear TB LB RB0 RBD HBB hbx TC
      go_wp2_with fail
      go_ret
      exact ⟨rfl, HBC.out⟩
end Go.Proofs.Ytdipccjgpkedhaa
