/- ElimPlays' walk. -/
import Derived.Test.YtgeodhffgbhmaaaDoorPlEnv
import Derived.Test.YtgeodhffgbhmaaaDoorElAwake
namespace Go.Proofs.YtgeodhffgbhmaaaDoor.El
open Go.RowKit
open VecM Vc
set_option maxRecDepth 100000 in
set_option maxHeartbeats 12800000 in
theorem elplays_walk (x y : Int) (U : Option Addr) (m cu : Nat) (R : Nat → ERow) (w : World) (ht : DTab w) (hr : Rows6 w U m R) (hcap : m ≤ cu ∧ cu ≤ 9223372036854775807) :
    Calls Tryd.prog 3 #[.int .i64 x, .int .i64 y, .slice U m cu] w fun e w' => e = .returned (.bool true) ∧ Below w.heap.size w w' := by
  have HT := Lib.hid ht
  have HR := Lib.hid hr
  have HLT := Lib.hid (light_any U m cu R w hr hcap)
  clear ht hr
  go_enter Tryd.func3, Tryd.ntmps3
  go_wp2_with fail
  refine HLT.out.mono ?_
  rintro e w1 ⟨lb, rfl, hl, hb1⟩
  have HB1 := Lib.hid hb1.out
  clear hb1 HLT
  cases lb with
  | false =>
    clear hl
    go_wp2_with fail
    refine (awake6_any _ (HT.out.grow HB1.out)).mono ?_
    rintro e w9 ⟨rfl, hb9⟩
    have HB9 := Lib.hid ((HB1.out).trans (hb9.out.mono (HB1.out).size))
    clear hb9
    go_wp2_with fail
    go_ret
    exact ⟨rfl, HB9.out⟩
  | true =>
    have hl2 := hl.out rfl
    have hm60 := hl2.1
    have HLI := Lib.hid hl2.2
    clear hl hl2
    by_cases hgood : 1 ≤ x ∧ x ≤ 256 ∧ 1 ≤ y ∧ y ≤ 16
    · obtain ⟨n, hn⟩ : ∃ n : Nat, x = (n : Int) := ⟨x.toNat, by omega⟩
      obtain ⟨z, hz⟩ : ∃ z : Nat, y = (z : Int) := ⟨y.toNat, by omega⟩
      subst hn hz
      have hn1 : 1 ≤ n ∧ n ≤ 256 := by omega
      have hz1 : 1 ≤ z ∧ z ≤ 16 := by omega
      have hni : (n : Int) ≤ 256 := by omega
      have HN := Lib.hid hn1
      have HZ := Lib.hid hz1
      have HNW := Lib.hid (newI n z w1 hn1 hz1)
      clear hgood hn1 hz1
      go_wp2_with fail
      refine HNW.out.mono ?_
      rintro e w2 ⟨gm, rfl, hm2, hb2⟩
      have HM2 := Lib.hid hm2.out
      have HB2 := Lib.hid hb2.out
      have HRN := Lib.hid (rnewM n z w2 HN.out HZ.out)
      clear hm2 hb2 HNW
      go_wp2_with fail
      refine HRN.out.mono ?_
      rintro e w3 ⟨gw, rfl, hm3, hb3⟩
      have HS0 : Hid (Sep3 (matO gm n z (List.replicate n none)) (rmO gw n z (rowsTo (List.replicate n none) n)) noObj w w3) := Lib.hid (by
        have s1 := (Sep3.start w).below keeps_no keeps_no keeps_no HB1.out
        have s2 := s1.create keeps_no keeps_no HB2.out (A' := matO gm n z (List.replicate n none)) HM2.out
        have s3 := (s2.rot).create keeps_no (keeps_mat gm n z _) hb3.out (A' := rmO gw n z (rowsTo (List.replicate n none) n)) (by rw [rowsTo_start]; exact hm3.out)
        exact s3.rot.rot)
      have HI0 := Lib.hid (Inv.start n z)
      clear hm3 hb3 HRN HM2 HB2 HB1
      go_wp2_with fail
      go_loopw [36] (fun x wr => ∃ (k : Nat) (M : Mx), k ≤ m ∧ x = .int .i64 (k : Int) ∧ Hid (Inv n z M) ∧ Hid (Sep3 (matO gm n z M) (rmO gw n z (rowsTo M n)) noObj w wr)) (fun x _ => m - (intOf x).toNat)
      case atStart => exact ⟨0, List.replicate n none, by omega, rfl, HI0, HS0⟩
      case round =>
        obtain ⟨k, M, hk, rfl, HI, HS⟩ := hrel
        clear HI0 HS0
        by_cases hlt : k < m
        · have hki : (k : Int) < (m : Int) := by omega
          have hmi : (m : Int) ≤ 60 := by omega
          obtain ⟨b, o, rfl, hbl, c0, c1, hg⟩ := HR.out.keep HS.out.b k hlt
          have HGA := Lib.hid hg.a
          have HD : Hid (Row w w.heap.size (R k).B (R k).m (bv (R k).l)) := Lib.hid (by
            obtain ⟨_, _, _, _, _, _, hg0⟩ := HR.out k hlt
            exact hg0.b)
          have hnl := (HLI.out k hlt).1
          have HNL : Hid ((R k).n ≤ 4611686018427387904) := Lib.hid (by omega)
          have ha1 := hg.ac
          have hb1 := hg.bc
          have hal : Below wr.heap.size wr (wr.alloc (.cells #[.slice (R k).A (R k).n (R k).c, .slice (R k).B (R k).m (R k).d] 32)) := (Below.refl _ _).alloc (Nat.le_refl _) _
          have HBX := Lib.hid (heap_alloc_new wr (.cells #[.slice (R k).A (R k).n (R k).c, .slice (R k).B (R k).m (R k).d] 32))
          have HAL := Lib.hid hal
          clear hg hal hbl hnl
          go_upto_region 11 with fail
          clear c0 c1
          generalize (wr.alloc (.cells #[.slice (R k).A (R k).n (R k).c, .slice (R k).B (R k).m (R k).d] 32)) = wa at *
          have b0 : wa.cell? ⟨wr.heap.size, 0, none⟩ = some (.slice (R k).A (R k).n (R k).c) := by rw [cell_of_row wa _ 0 _ _ (0, 0) HBX.out]; rfl
          have HLX : Hid (wr.heap.size < wa.heap.size) := Lib.hid (Array.getElem?_eq_some_iff.1 HBX.out).1
          have HOF := Lib.hid (of_any n (R k).A (R k).n (R k).c _ (R k).zs wa (HGA.out.below HAL.out) HAL.out.size HNL.out HN.out.2)
          go_wp2_with fail
          refine HOF.out.mono ?_
          rintro e wv ⟨g, h, rfl, hg1, hg2, hv, hbv⟩
          have HGH : Hid (wa.heap.size ≤ g ∧ wa.heap.size ≤ h) := Lib.hid ⟨hg1, hg2⟩
          have HV := Lib.hid hv.out
          have HBV := Lib.hid hbv.out
          have HAV := Lib.hid (HAL.out.trans (HBV.out.mono HAL.out.size))
          have b0v : wv.cell? ⟨wr.heap.size, 0, none⟩ = some (.slice (R k).A (R k).n (R k).c) := (HBV.out.cell (p := ⟨wr.heap.size, 0, none⟩) HLX.out).trans b0
          have HBI := Lib.hid (r1bits_any n (R k).A (R k).n (R k).c _ (R k).zs wv (HGA.out.below HAV.out) HAV.out.size HNL.out HN.out.2)
          clear b0 hg1 hg2 hv hbv
          go_wp2_with fail
          refine HBI.out.mono ?_
          rintro e wb ⟨gv, rfl, ho, hbb⟩
          clear b0v
          have hgv : wv.heap.size ≤ gv ∧ gv < wb.heap.size := by
            rcases ho.out.2 with ⟨e, _⟩ | ⟨g', cap, cur, e, hg', hh, _⟩
            · cases e
            · injection e with e
              injection e with e
              injection e with e
              subst e
              exact ⟨hg', (Array.getElem?_eq_some_iff.1 hh).1⟩
          have hvb := HV.out.below hbb.out
          have hax : Below wr.heap.size wr wb := HAV.out.trans (hbb.out.mono HAV.out.size)
          have HBX0 : Hid (BX6 wr.heap.size #[.slice (R k).A (R k).n (R k).c, .slice (R k).B (R k).m (R k).d] wb) := Lib.hid (((HBV.out.trans (hbb.out.mono HBV.out.size)).block _ HLX.out).trans HBX.out)
          have E0_ : Hid (PlE gm gw n z M M (ofL n (R k).zs) g h gv wr.heap.size #[.slice (R k).A (R k).n (R k).c, .slice (R k).B (R k).m (R k).d] w wb) := Lib.hid (PlE.make HS.out hax ⟨by have := HGH.out; have := HAL.out.size; omega, by have := HGH.out; have := HAL.out.size; omega, by have := hgv.1; have := HAV.out.size; omega, Nat.le_refl _⟩ hgv.2 hvb (Row.of_own ho.out) HBX0.out)
          have HCB : Hid (∀ W, BX6 wr.heap.size #[.slice (R k).A (R k).n (R k).c, .slice (R k).B (R k).m (R k).d] W → W.cell? ⟨wr.heap.size, 0, none⟩ = some (.slice (R k).A (R k).n (R k).c) ∧ W.cell? ⟨wr.heap.size, 1, none⟩ = some (.slice (R k).B (R k).m (R k).d)) := Lib.hid fun W hW => by
            constructor <;> (rw [cell_of_row W _ _ _ _ (0, 0) hW]; rfl)
          obtain ⟨sb, hsb⟩ : ∃ b, decide ((redM M (ofL n (R k).zs) [] n).1 ≠ 0) = b := ⟨_, rfl⟩
          have HSB := Lib.hid hsb
          obtain ⟨M2, ab, haz⟩ : ∃ M2 ab, addZ n z M (ofL n (R k).zs) (R k).m (R k).l = (M2, ab) := ⟨_, _, rfl⟩
          have HAZ := Lib.hid haz
          have HIN : Hid (Inv n z M2) := Lib.hid (by
            have h1 := addZ_inv HI.out HN.out.2 (ofL_lt (R k).zs) HD.out.blen (n := n) (z := z) (M := M)
            rw [haz] at h1
            exact h1)
          clear hgv hvb hax hsb haz ho hbb HOF HBI HS HV HBV HAV HBX HGH
          go_upto_region 13 with fail
          refine wp_region_noPanic ?_
          refine wp_region_held_drew (S := (fun W => BX6 wr.heap.size #[.slice (R k).A (R k).n (R k).c, .slice (R k).B (R k).m (R k).d] W)) (by kernel_rfl) HBX0.out (fun hH0 => ?_)
          have hH0 : BX6 wr.heap.size #[.slice (R k).A (R k).n (R k).c, .slice (R k).B (R k).m (R k).d] wb.drew := hH0
          have E0_d := Lib.hid (E0_.out.below ((Below.refl wb.heap.size wb).drew))
          generalize wb.drew = wd1000 at *
          refine wpAnyH_take (i := 0) (oi := { dst := some 48, op := Op.move (Operand.tmp 7), type := 25, pos := "law.go:71", after := #[], guard := none }) (v := ?tkv1001) rfl (by kernel_rfl) (by kernel_rfl) (by kernel_rfl) (fun _ _ _ h => h) (Or.inl ⟨by rfl, ?tky1001⟩) hH0 ?tkr1001
          case tky1001 => (intro w' hSw; clear hSw; go_simp; try with_reducible rfl)
          try simp only [Act.put, List.setIfInBounds_toArray, List.set_cons_zero, List.set_cons_succ]
          refine wpAnyH_take (i := 1) (oi := { dst := some 49, op := Op.move (Operand.tmp 11), type := 33, pos := "law.go:71", after := #[], guard := none }) (v := ?tkv1002) rfl (by kernel_rfl) (by kernel_rfl) (by kernel_rfl) (fun _ _ _ h => h) (Or.inl ⟨by rfl, ?tky1002⟩) hH0 ?tkr1002
          case tky1002 => (intro w' hSw; clear hSw; go_simp; try with_reducible rfl)
          try simp only [Act.put, List.setIfInBounds_toArray, List.set_cons_zero, List.set_cons_succ]
          refine wpAnyH_take (i := 3) (oi := { dst := some 51, op := Op.move (Operand.tmp 8), type := 27, pos := "law.go:71", after := #[], guard := none }) (v := ?tkv1003) rfl (by kernel_rfl) (by kernel_rfl) (by kernel_rfl) (fun _ _ _ h => h) (Or.inl ⟨by rfl, ?tky1003⟩) hH0 ?tkr1003
          case tky1003 => (intro w' hSw; clear hSw; go_simp; try with_reducible rfl)
          try simp only [Act.put, List.setIfInBounds_toArray, List.set_cons_zero, List.set_cons_succ]
          refine wpAnyH_take (i := 4) (oi := { dst := some 52, op := Op.move (Operand.tmp 12), type := 35, pos := "law.go:71", after := #[], guard := none }) (v := ?tkv1004) rfl (by kernel_rfl) (by kernel_rfl) (by kernel_rfl) (fun _ _ _ h => h) (Or.inl ⟨by rfl, ?tky1004⟩) hH0 ?tkr1004
          case tky1004 => (intro w' hSw; clear hSw; go_simp; try with_reducible rfl)
          try simp only [Act.put, List.setIfInBounds_toArray, List.set_cons_zero, List.set_cons_succ]
          refine wpAnyH_ready (rs := [2]) (by kernel_rfl) (by simp) ?_
          refine AllReadyH.cons (o := { dst := some 50, op := Op.call { callee := Callee.value (Operand.func 12), args := #[Operand.tmp 48, Operand.tmp 49], argTypes := #[25, 33] }, type := 4, pos := "law.go:71", after := #[{ on := 0, ground := Ground.data }, { on := 1, ground := Ground.data }], guard := none }) rfl (fun K hK => ?_) AllReadyH.nil
          go_simp
          refine (pl_says E0_d.out HT.out).mono ?_
          rw [HSB.out]
          rintro e' wn1005 ⟨rfl, hb1005'⟩
          have hb1005 := hb1005'.out
          have HBX1005 := (E0_d.out.below hb1005).bx
          clear hb1005'
          go_simp
          have E0_1005 := Lib.hid (E0_d.out.below hb1005)
          have hS1005 : BX6 wr.heap.size #[.slice (R k).A (R k).n (R k).c, .slice (R k).B (R k).m (R k).d] wn1005 := HBX1005
          refine hK.out _ _ hS1005 (fun hH1005 => ?_)
          have hH1005 : BX6 wr.heap.size #[.slice (R k).A (R k).n (R k).c, .slice (R k).B (R k).m (R k).d] wn1005 := hH1005
          clear hK K hS1005
          try simp only [Act.put, List.setIfInBounds_toArray, List.set_cons_zero, List.set_cons_succ]
          refine wpAnyH_ready (rs := [5]) (by kernel_rfl) (by simp) ?_
          refine AllReadyH.cons (o := { dst := some 53, op := Op.call { callee := Callee.value (Operand.func 13), args := #[Operand.tmp 51, Operand.tmp 52], argTypes := #[27, 35] }, type := 4, pos := "law.go:71", after := #[{ on := 3, ground := Ground.data }, { on := 4, ground := Ground.data }, { on := 2, ground := Ground.chain }], guard := none }) rfl (fun K hK => ?_) AllReadyH.nil
          go_simp
          refine (pl_rsays E0_1005.out).mono ?_
          rw [HSB.out]
          rintro e' wn1006 ⟨rfl, hb1006'⟩
          have hb1006 := hb1006'.out
          have HBX1006 := (E0_1005.out.below hb1006).bx
          clear hb1006'
          go_simp
          have E0_1006 := Lib.hid (E0_1005.out.below hb1006)
          have hS1006 : BX6 wr.heap.size #[.slice (R k).A (R k).n (R k).c, .slice (R k).B (R k).m (R k).d] wn1006 := HBX1006
          refine hK.out _ _ hS1006 (fun hH1006 => ?_)
          have hH1006 : BX6 wr.heap.size #[.slice (R k).A (R k).n (R k).c, .slice (R k).B (R k).m (R k).d] wn1006 := hH1006
          clear hK K hS1006
          try simp only [Act.put, List.setIfInBounds_toArray, List.set_cons_zero, List.set_cons_succ]
          refine wpAnyH_take (i := 6) (oi := { dst := some 54, op := Op.binOp BinOp.neq 4 (Operand.tmp 50) (Operand.tmp 53) 4, type := 4, pos := "law.go:71", after := #[{ on := 2, ground := Ground.data }, { on := 5, ground := Ground.data }], guard := none }) (v := ?tkv1007) rfl (by kernel_rfl) (by kernel_rfl) (by kernel_rfl) (fun _ _ _ h => h) (Or.inl ⟨by rfl, ?tky1007⟩) hH1006 ?tkr1007
          case tky1007 => (intro w' hSw; clear hSw; go_simp; try with_reducible rfl)
          try simp only [Act.put, List.setIfInBounds_toArray, List.set_cons_zero, List.set_cons_succ]
          refine wpAnyH_take (i := 7) (oi := { dst := some 55, op := Op.move (Operand.tmp 54), type := 4, pos := "law.go:71", after := #[{ on := 6, ground := Ground.data }, { on := 5, ground := Ground.chain }], guard := none }) (v := ?tkv1008) rfl (by kernel_rfl) (by kernel_rfl) (by kernel_rfl) (fun _ _ _ h => h) (Or.inl ⟨by rfl, ?tky1008⟩) hH1006 ?tkr1008
          case tky1008 => (intro w' hSw; clear hSw; go_simp; try with_reducible rfl)
          try simp only [Act.put, List.setIfInBounds_toArray, List.set_cons_zero, List.set_cons_succ]
          refine wpAnyH_take (i := 8) (oi := { dst := some 56, op := Op.move (Operand.tmp 7), type := 25, pos := "law.go:71", after := #[{ on := 7, ground := Ground.guard }], guard := some (7, false) }) (v := ?tkv1009) rfl (by kernel_rfl) (by kernel_rfl) (by kernel_rfl) (fun _ _ _ h => h) (Or.inl ⟨by rfl, ?tky1009⟩) hH1006 ?tkr1009
          case tky1009 => (intro w' hSw; clear hSw; go_simp; try with_reducible rfl)
          try simp only [Act.put, List.setIfInBounds_toArray, List.set_cons_zero, List.set_cons_succ]
          refine wpAnyH_take (i := 9) (oi := { dst := some 57, op := Op.move (Operand.tmp 11), type := 33, pos := "law.go:71", after := #[{ on := 7, ground := Ground.guard }], guard := some (7, false) }) (v := ?tkv1010) rfl (by kernel_rfl) (by kernel_rfl) (by kernel_rfl) (fun _ _ _ h => h) (Or.inl ⟨by rfl, ?tky1010⟩) hH1006 ?tkr1010
          case tky1010 => (intro w' hSw; clear hSw; go_simp; try with_reducible rfl)
          try simp only [Act.put, List.setIfInBounds_toArray, List.set_cons_zero, List.set_cons_succ]
          refine wpAnyH_take (i := 10) (oi := { dst := some 58, op := Op.fieldAddr 32 (Operand.tmp 10) 1, type := 0, pos := "law.go:71", after := #[{ on := 7, ground := Ground.guard }], guard := some (7, false) }) (v := ?tkv1011) rfl (by kernel_rfl) (by kernel_rfl) (by kernel_rfl) (fun _ _ _ h => h) (Or.inl ⟨by rfl, ?tky1011⟩) hH1006 ?tkr1011
          case tky1011 => (intro w' hSw; clear hSw; go_simp; try with_reducible rfl)
          try simp only [Act.put, List.setIfInBounds_toArray, List.set_cons_zero, List.set_cons_succ]
          refine wpAnyH_take (i := 11) (oi := { dst := some 59, op := Op.load 30 (Operand.tmp 58), type := 30, pos := "law.go:71", after := #[{ on := 10, ground := Ground.data }, { on := 7, ground := Ground.guard }], guard := some (7, false) }) (v := ?tkv1012) rfl (by kernel_rfl) (by kernel_rfl) (by kernel_rfl) (fun _ _ _ h => h) (Or.inl ⟨by rfl, ?tky1012⟩) hH1006 ?tkr1012
          case tky1012 => (intro w' hSw; have z0 := HCB.out _ hSw; clear hSw; go_simp; try with_reducible rfl)
          try simp only [Act.put, List.setIfInBounds_toArray, List.set_cons_zero, List.set_cons_succ]
          refine wpAnyH_take (i := 13) (oi := { dst := some 61, op := Op.move (Operand.tmp 8), type := 27, pos := "law.go:71", after := #[{ on := 7, ground := Ground.guard }], guard := some (7, false) }) (v := ?tkv1013) rfl (by kernel_rfl) (by kernel_rfl) (by kernel_rfl) (fun _ _ _ h => h) (Or.inl ⟨by rfl, ?tky1013⟩) hH1006 ?tkr1013
          case tky1013 => (intro w' hSw; clear hSw; go_simp; try with_reducible rfl)
          try simp only [Act.put, List.setIfInBounds_toArray, List.set_cons_zero, List.set_cons_succ]
          refine wpAnyH_take (i := 14) (oi := { dst := some 62, op := Op.move (Operand.tmp 12), type := 35, pos := "law.go:71", after := #[{ on := 7, ground := Ground.guard }], guard := some (7, false) }) (v := ?tkv1014) rfl (by kernel_rfl) (by kernel_rfl) (by kernel_rfl) (fun _ _ _ h => h) (Or.inl ⟨by rfl, ?tky1014⟩) hH1006 ?tkr1014
          case tky1014 => (intro w' hSw; clear hSw; go_simp; try with_reducible rfl)
          try simp only [Act.put, List.setIfInBounds_toArray, List.set_cons_zero, List.set_cons_succ]
          refine wpAnyH_take (i := 15) (oi := { dst := some 63, op := Op.fieldAddr 32 (Operand.tmp 10) 1, type := 0, pos := "law.go:71", after := #[{ on := 7, ground := Ground.guard }], guard := some (7, false) }) (v := ?tkv1015) rfl (by kernel_rfl) (by kernel_rfl) (by kernel_rfl) (fun _ _ _ h => h) (Or.inl ⟨by rfl, ?tky1015⟩) hH1006 ?tkr1015
          case tky1015 => (intro w' hSw; clear hSw; go_simp; try with_reducible rfl)
          try simp only [Act.put, List.setIfInBounds_toArray, List.set_cons_zero, List.set_cons_succ]
          refine wpAnyH_take (i := 16) (oi := { dst := some 64, op := Op.load 30 (Operand.tmp 63), type := 30, pos := "law.go:71", after := #[{ on := 15, ground := Ground.data }, { on := 7, ground := Ground.guard }], guard := some (7, false) }) (v := ?tkv1016) rfl (by kernel_rfl) (by kernel_rfl) (by kernel_rfl) (fun _ _ _ h => h) (Or.inl ⟨by rfl, ?tky1016⟩) hH1006 ?tkr1016
          case tky1016 => (intro w' hSw; have z0 := HCB.out _ hSw; clear hSw; go_simp; try with_reducible rfl)
          try simp only [Act.put, List.setIfInBounds_toArray, List.set_cons_zero, List.set_cons_succ]
          refine wpAnyH_ready (rs := [12]) (by kernel_rfl) (by simp) ?_
          refine AllReadyH.cons (o := { dst := some 60, op := Op.call { callee := Callee.value (Operand.func 14), args := #[Operand.tmp 56, Operand.tmp 57, Operand.tmp 59], argTypes := #[25, 33, 30] }, type := 4, pos := "law.go:71", after := #[{ on := 8, ground := Ground.data }, { on := 9, ground := Ground.data }, { on := 11, ground := Ground.data }, { on := 7, ground := Ground.chain }, { on := 7, ground := Ground.guard }], guard := some (7, false) }) rfl (fun K hK => ?_) AllReadyH.nil
          go_simp
          refine (pl_add (d := (R k).d) E0_1006.out HI.out HT.out HD.out).mono ?_
          rw [HAZ.out]
          rintro e' wn1017 ⟨rfl, he1017⟩
          have E1017_ := Lib.hid he1017.out
          have HBX1017 := he1017.out.bx
          clear he1017 E0_1006
          go_simp
          have hS1017 : BX6 wr.heap.size #[.slice (R k).A (R k).n (R k).c, .slice (R k).B (R k).m (R k).d] wn1017 := HBX1017
          refine hK.out _ _ hS1017 (fun hH1017 => ?_)
          have hH1017 : BX6 wr.heap.size #[.slice (R k).A (R k).n (R k).c, .slice (R k).B (R k).m (R k).d] wn1017 := hH1017
          clear hK K hS1017
          try simp only [Act.put, List.setIfInBounds_toArray, List.set_cons_zero, List.set_cons_succ]
          refine wpAnyH_ready (rs := [17]) (by kernel_rfl) (by simp) ?_
          refine AllReadyH.cons (o := { dst := some 65, op := Op.call { callee := Callee.value (Operand.func 15), args := #[Operand.tmp 61, Operand.tmp 62, Operand.tmp 64], argTypes := #[27, 35, 30] }, type := 4, pos := "law.go:71", after := #[{ on := 13, ground := Ground.data }, { on := 14, ground := Ground.data }, { on := 16, ground := Ground.data }, { on := 12, ground := Ground.chain }, { on := 7, ground := Ground.guard }], guard := some (7, false) }) rfl (fun K hK => ?_) AllReadyH.nil
          go_simp
          refine (pl_radd (d := (R k).d) E1017_.out HI.out HD.out).mono ?_
          rw [HAZ.out]
          rintro e' wn1018 ⟨rfl, he1018⟩
          have E1018_ := Lib.hid he1018.out
          have HBX1018 := he1018.out.bx
          clear he1018 E1017_
          go_simp
          have hS1018 : BX6 wr.heap.size #[.slice (R k).A (R k).n (R k).c, .slice (R k).B (R k).m (R k).d] wn1018 := HBX1018
          refine hK.out _ _ hS1018 (fun hH1018 => ?_)
          have hH1018 : BX6 wr.heap.size #[.slice (R k).A (R k).n (R k).c, .slice (R k).B (R k).m (R k).d] wn1018 := hH1018
          clear hK K hS1018
          try simp only [Act.put, List.setIfInBounds_toArray, List.set_cons_zero, List.set_cons_succ]
          refine wpAnyH_take (i := 18) (oi := { dst := some 66, op := Op.binOp BinOp.neq 4 (Operand.tmp 60) (Operand.tmp 65) 4, type := 4, pos := "law.go:71", after := #[{ on := 12, ground := Ground.data }, { on := 17, ground := Ground.data }, { on := 7, ground := Ground.guard }], guard := some (7, false) }) (v := ?tkv1019) rfl (by kernel_rfl) (by kernel_rfl) (by kernel_rfl) (fun _ _ _ h => h) (Or.inl ⟨by rfl, ?tky1019⟩) hH1018 ?tkr1019
          case tky1019 => (intro w' hSw; clear hSw; go_simp; try with_reducible rfl)
          try simp only [Act.put, List.setIfInBounds_toArray, List.set_cons_zero, List.set_cons_succ]
          refine wpAnyH_take (i := 19) (oi := { dst := some 67, op := Op.pick (Operand.tmp 55) (Operand.const (Value.bool true)) (Operand.tmp 66), type := 4, pos := "law.go:71", after := #[{ on := 7, ground := Ground.data }, { on := 18, ground := Ground.data }], guard := none }) (v := ?tkv1020) rfl (by kernel_rfl) (by kernel_rfl) (by kernel_rfl) (fun _ _ _ h => h) (Or.inl ⟨by rfl, ?tky1020⟩) hH1018 ?tkr1020
          case tky1020 => (intro w' hSw; clear hSw; go_simp; try with_reducible rfl)
          try simp only [Act.put, List.setIfInBounds_toArray, List.set_cons_zero, List.set_cons_succ]
          refine wpAnyH_take (i := 20) (oi := { dst := some 68, op := Op.move (Operand.tmp 67), type := 4, pos := "law.go:71", after := #[{ on := 19, ground := Ground.data }, { on := 17, ground := Ground.chain }], guard := none }) (v := ?tkv1021) rfl (by kernel_rfl) (by kernel_rfl) (by kernel_rfl) (fun _ _ _ h => h) (Or.inl ⟨by rfl, ?tky1021⟩) hH1018 ?tkr1021
          case tky1021 => (intro w' hSw; clear hSw; go_simp; try with_reducible rfl)
          try simp only [Act.put, List.setIfInBounds_toArray, List.set_cons_zero, List.set_cons_succ]
          refine wpAnyH_take (i := 21) (oi := { dst := some 69, op := Op.move (Operand.tmp 11), type := 33, pos := "law.go:71", after := #[{ on := 20, ground := Ground.guard }], guard := some (20, false) }) (v := ?tkv1022) rfl (by kernel_rfl) (by kernel_rfl) (by kernel_rfl) (fun _ _ _ h => h) (Or.inl ⟨by rfl, ?tky1022⟩) hH1018 ?tkr1022
          case tky1022 => (intro w' hSw; clear hSw; go_simp; try with_reducible rfl)
          try simp only [Act.put, List.setIfInBounds_toArray, List.set_cons_zero, List.set_cons_succ]
          refine wpAnyH_take (i := 22) (oi := { dst := some 70, op := Op.move (Operand.tmp 12), type := 35, pos := "law.go:71", after := #[{ on := 20, ground := Ground.guard }], guard := some (20, false) }) (v := ?tkv1023) rfl (by kernel_rfl) (by kernel_rfl) (by kernel_rfl) (fun _ _ _ h => h) (Or.inl ⟨by rfl, ?tky1023⟩) hH1018 ?tkr1023
          case tky1023 => (intro w' hSw; clear hSw; go_simp; try with_reducible rfl)
          try simp only [Act.put, List.setIfInBounds_toArray, List.set_cons_zero, List.set_cons_succ]
          refine wpAnyH_ready (rs := [23]) (by kernel_rfl) (by simp) ?_
          refine AllReadyH.cons (o := { dst := some 71, op := Op.call { callee := Callee.value (Operand.func 16), args := #[Operand.tmp 69, Operand.tmp 70], argTypes := #[33, 35] }, type := 3, pos := "law.go:71", after := #[{ on := 21, ground := Ground.data }, { on := 22, ground := Ground.data }, { on := 20, ground := Ground.chain }, { on := 20, ground := Ground.guard }], guard := some (20, false) }) rfl (fun K hK => ?_) AllReadyH.nil
          go_simp
          refine (pl_like5 E1018_.out HT.out).mono ?_
          rintro e' wn1024 ⟨rfl, hb1024'⟩
          have hb1024 := hb1024'.out
          have HBX1024 := (E1018_.out.below hb1024).bx
          clear hb1024'
          go_simp
          have E1018_1024 := Lib.hid (E1018_.out.below hb1024)
          have hS1024 : BX6 wr.heap.size #[.slice (R k).A (R k).n (R k).c, .slice (R k).B (R k).m (R k).d] wn1024 := HBX1024
          refine hK.out _ _ hS1024 (fun hH1024 => ?_)
          have hH1024 : BX6 wr.heap.size #[.slice (R k).A (R k).n (R k).c, .slice (R k).B (R k).m (R k).d] wn1024 := hH1024
          clear hK K hS1024
          try simp only [Act.put, List.setIfInBounds_toArray, List.set_cons_zero, List.set_cons_succ]
          refine wpAnyH_take (i := 24) (oi := { dst := some 72, op := Op.binOp BinOp.gtr 3 (Operand.tmp 71) (Operand.const (Value.int IntKind.i64 0)) 3, type := 4, pos := "law.go:71", after := #[{ on := 23, ground := Ground.data }, { on := 20, ground := Ground.guard }], guard := some (20, false) }) (v := ?tkv1025) rfl (by kernel_rfl) (by kernel_rfl) (by kernel_rfl) (fun _ _ _ h => h) (Or.inl ⟨by rfl, ?tky1025⟩) hH1024 ?tkr1025
          case tky1025 => (intro w' hSw; clear hSw; go_simp; try with_reducible rfl)
          try simp only [Act.put, List.setIfInBounds_toArray, List.set_cons_zero, List.set_cons_succ]
          refine wpAnyH_take (i := 25) (oi := { dst := some 73, op := Op.pick (Operand.tmp 68) (Operand.const (Value.bool true)) (Operand.tmp 72), type := 4, pos := "law.go:71", after := #[{ on := 20, ground := Ground.data }, { on := 24, ground := Ground.data }], guard := none }) (v := ?tkv1026) rfl (by kernel_rfl) (by kernel_rfl) (by kernel_rfl) (fun _ _ _ h => h) (Or.inl ⟨by rfl, ?tky1026⟩) hH1024 ?tkr1026
          case tky1026 => (intro w' hSw; clear hSw; go_simp; try with_reducible rfl)
          try simp only [Act.put, List.setIfInBounds_toArray, List.set_cons_zero, List.set_cons_succ]
          refine wpAnyH_take (i := 26) (oi := { dst := some 74, op := Op.move (Operand.tmp 73), type := 4, pos := "law.go:71", after := #[{ on := 25, ground := Ground.data }, { on := 23, ground := Ground.chain }], guard := none }) (v := ?tkv1027) rfl (by kernel_rfl) (by kernel_rfl) (by kernel_rfl) (fun _ _ _ h => h) (Or.inl ⟨by rfl, ?tky1027⟩) hH1024 ?tkr1027
          case tky1027 => (intro w' hSw; clear hSw; go_simp; try with_reducible rfl)
          try simp only [Act.put, List.setIfInBounds_toArray, List.set_cons_zero, List.set_cons_succ]
          refine wpAnyH_take (i := 27) (oi := { dst := some 75, op := Op.move (Operand.tmp 7), type := 25, pos := "law.go:71", after := #[{ on := 26, ground := Ground.guard }], guard := some (26, false) }) (v := ?tkv1028) rfl (by kernel_rfl) (by kernel_rfl) (by kernel_rfl) (fun _ _ _ h => h) (Or.inl ⟨by rfl, ?tky1028⟩) hH1024 ?tkr1028
          case tky1028 => (intro w' hSw; clear hSw; go_simp; try with_reducible rfl)
          try simp only [Act.put, List.setIfInBounds_toArray, List.set_cons_zero, List.set_cons_succ]
          refine wpAnyH_take (i := 28) (oi := { dst := some 76, op := Op.move (Operand.tmp 8), type := 27, pos := "law.go:71", after := #[{ on := 26, ground := Ground.guard }], guard := some (26, false) }) (v := ?tkv1029) rfl (by kernel_rfl) (by kernel_rfl) (by kernel_rfl) (fun _ _ _ h => h) (Or.inl ⟨by rfl, ?tky1029⟩) hH1024 ?tkr1029
          case tky1029 => (intro w' hSw; clear hSw; go_simp; try with_reducible rfl)
          try simp only [Act.put, List.setIfInBounds_toArray, List.set_cons_zero, List.set_cons_succ]
          refine wpAnyH_ready (rs := [29]) (by kernel_rfl) (by simp) ?_
          refine AllReadyH.cons (o := { dst := some 77, op := Op.call { callee := Callee.value (Operand.func 17), args := #[Operand.tmp 75, Operand.tmp 76], argTypes := #[25, 27] }, type := 4, pos := "law.go:71", after := #[{ on := 27, ground := Ground.data }, { on := 28, ground := Ground.data }, { on := 26, ground := Ground.chain }, { on := 26, ground := Ground.guard }], guard := some (26, false) }) rfl (fun K hK => ?_) AllReadyH.nil
          go_simp
          refine (sep_like (C := envO n (ofL n (R k).zs) g h gv wr.heap.size _) E1018_1024.out HT.out).mono ?_
          rintro e' wn1030 ⟨rfl, hb1030'⟩
          have hb1030 := hb1030'.out
          have HBX1030 := (E1018_1024.out.below hb1030).bx
          clear hb1030'
          go_simp
          have E1018_1030 := Lib.hid (E1018_1024.out.below hb1030)
          have hS1030 : BX6 wr.heap.size #[.slice (R k).A (R k).n (R k).c, .slice (R k).B (R k).m (R k).d] wn1030 := HBX1030
          refine hK.out _ _ hS1030 (fun hH1030 => ?_)
          have hH1030 : BX6 wr.heap.size #[.slice (R k).A (R k).n (R k).c, .slice (R k).B (R k).m (R k).d] wn1030 := hH1030
          clear hK K hS1030
          try simp only [Act.put, List.setIfInBounds_toArray, List.set_cons_zero, List.set_cons_succ]
          refine wpAnyH_take (i := 30) (oi := { dst := some 78, op := Op.unOp UnOp.not 4 (Operand.tmp 77), type := 4, pos := "law.go:71", after := #[{ on := 29, ground := Ground.data }, { on := 26, ground := Ground.guard }], guard := some (26, false) }) (v := ?tkv1031) rfl (by kernel_rfl) (by kernel_rfl) (by kernel_rfl) (fun _ _ _ h => h) (Or.inl ⟨by rfl, ?tky1031⟩) hH1030 ?tkr1031
          case tky1031 => (intro w' hSw; clear hSw; go_simp; try with_reducible rfl)
          try simp only [Act.put, List.setIfInBounds_toArray, List.set_cons_zero, List.set_cons_succ]
          refine wpAnyH_take (i := 31) (oi := { dst := some 79, op := Op.pick (Operand.tmp 74) (Operand.const (Value.bool true)) (Operand.tmp 78), type := 4, pos := "law.go:71", after := #[{ on := 26, ground := Ground.data }, { on := 30, ground := Ground.data }], guard := none }) (v := ?tkv1032) rfl (by kernel_rfl) (by kernel_rfl) (by kernel_rfl) (fun _ _ _ h => h) (Or.inl ⟨by rfl, ?tky1032⟩) hH1030 ?tkr1032
          case tky1032 => (intro w' hSw; clear hSw; go_simp; try with_reducible rfl)
          try simp only [Act.put, List.setIfInBounds_toArray, List.set_cons_zero, List.set_cons_succ]
          refine wpAnyH_done (by kernel_rfl) ?_ _
          refine NoPanic.normal ?_
          have HSN := Lib.hid E1018_1030.out.drop
          go_wp2_with fail
          go_roundw
          case rel => exact ⟨k + 1, M2, by omega, by go_num, HIN, HSN⟩
          case measure => simp [intOf]; omega
        · obtain rfl : m = k := by omega
          clear hlt
          obtain ⟨wm, rfl⟩ : ∃ W : World, W = wr := ⟨_, rfl⟩
          have HBM := Lib.hid HS.out.b
          obtain ⟨FA, FB, FC, hmA, hmB, _, _, _, _, _, _⟩ := HS.out
          obtain ⟨A2, c2, es, hh, hls, hes⟩ := hmB.at_
          have hrl : es.length = rankM M := by rw [← rowsTo_rank HI.out.len, ← hes, List.length_map]
          have hh0 := Array.getElem?_eq_some_iff.1 hh
          by_cases hf : rankM M = n
          · have HFU := Lib.hid (rowsTo_full HI.out.len hf)
            have HSO := Lib.hid (solveI hmA hf)
            have HES := Lib.hid hes
            have hel : es.length = n := hrl.trans hf
            have HEL := Lib.hid hel
            have HLS := Lib.hid (fun (W : World) (hW : Below wm.heap.size wm W) => hls.below hW)
            have HCW : Hid (∀ W, Below wm.heap.size wm W → W.cell? ⟨gw, 2, none⟩ = some (.slice A2 n c2)) := Lib.hid fun W hW => by
              have h2 := (hW.block _ hh0.1).trans hh
              rw [hel] at h2
              rw [cell_of_row W _ _ _ _ (0, 0) h2]; rfl
            clear hf hmA hmB hh hh0 hls hes hrl hel
            go_wp2_with fail
            refine HSO.out.mono ?_
            rintro e wq ⟨gl, es2, rfl, hes2, hs2⟩
            have HS2 := Lib.hid hs2.out
            have HE2 : Hid (es2.map (·.l) = es.map (·.l)) := Lib.hid (by
              rw [hes2, ← HFU.out, ← HES.out, List.map_map]; rfl)
            have HBQ : Hid (Below wm.heap.size wm wq) := Lib.hid hs2.out.b
            have hcw := HCW.out wq HBQ.out
            have HEN : Hid (es2.length = n) := Lib.hid (by
              have := congrArg List.length HE2.out
              rw [List.length_map, List.length_map, HEL.out] at this
              exact this)
            clear hes2 hs2 HSO
            go_wp2_with fail
            clear hcw
            go_loopw [101] (fun i wr => ∃ t : Nat, t ≤ n ∧ i = .int .i64 t ∧ Hid (Below wq.heap.size wq wr)) (fun i _ => n - (intOf i).toNat)
            case atStart => exact ⟨0, by omega, rfl, Lib.hid (Below.refl _ _)⟩
            case round =>
              obtain ⟨t, ht2, rfl, HBK⟩ := hrel
              have HBW := Lib.hid (HBQ.out.trans (HBK.out.mono HBQ.out.size))
              by_cases hlt : t < n
              · have hti : (t : Int) < (n : Int) := by omega
                have hti2 : ¬ (n : Int) ≤ (t : Int) := by omega
                obtain ⟨er, her⟩ : ∃ r, es[t]? = some r := ⟨_, List.getElem?_eq_getElem (by rw [HEL.out]; exact hlt)⟩
                obtain ⟨br, hbr⟩ : ∃ r, es2[t]? = some r := ⟨_, List.getElem?_eq_getElem (by rw [HEN.out]; exact hlt)⟩
                have hbe : br.l = er.l := by
                  have h1 : (es2.map (·.l))[t]? = some br.l := by rw [List.getElem?_map, hbr]; rfl
                  rw [HE2.out, List.getElem?_map, her] at h1
                  exact (Option.some.inj h1).symm
                obtain ⟨ga, hAg, hgl, c1, c3, hat⟩ := (HLS.out wr HBW.out).at_ her
                obtain ⟨cs, hcs, _, hcv⟩ := (HS2.out.below HBK.out).row
                obtain ⟨hbn, hbd, _⟩ := (HS2.out.below HBK.out).at_ br (List.mem_of_getElem? hbr)
                have hcell : wr.cell? ⟨gl, t, none⟩ = some (.slice br.A br.n br.c) := by
                  rw [cell_of_row wr _ _ _ _ (0, 0) hcs]; exact hcv t br hbr
                have hal : Below wr.heap.size wr (wr.alloc (.cells #[.slice (some ⟨er.gv, 0, none⟩) n er.cv, .slice (some ⟨er.gd, 0, none⟩) z er.cd] 49)) := (Below.refl _ _).alloc (Nat.le_refl _) _
                have HBX := Lib.hid (heap_alloc_new wr (.cells #[.slice (some ⟨er.gv, 0, none⟩) n er.cv, .slice (some ⟨er.gd, 0, none⟩) z er.cd] 49))
                have HBL := Lib.hid (HBK.out.trans (hal.mono HBK.out.size))
                have HRA : Hid (Row wr wr.heap.size br.A br.n (bv er.l)) := Lib.hid (by rw [hbn, ← hbe]; exact hbd.row)
                have HRB := Lib.hid hat.d
                have HAL := Lib.hid hal
                have HCL := Lib.hid hcell
                subst hAg
                clear hbe hcs hcv hbn hbd hal hat her hbr hcell
                go_upto_region 22 with fail
                clear c1 c3
                generalize (wr.alloc (.cells #[.slice (some ⟨er.gv, 0, none⟩) n er.cv, .slice (some ⟨er.gd, 0, none⟩) z er.cd] 49)) = wl at *
                have HF22 : Hid (∀ W, Below wl.heap.size wl W → W.cell? ⟨gl, t, none⟩ = some (.slice br.A br.n br.c) ∧ W.cell? ⟨wr.heap.size, 1, none⟩ = some (.slice (some ⟨er.gd, 0, none⟩) z er.cd) ∧ (convert 30 9 (.slice br.A br.n br.c)).run Tryd.prog W = .ok (.string ⟨er.l.toArray⟩) W ∧ (convert 30 9 (.slice (some ⟨er.gd, 0, none⟩) z er.cd)).run Tryd.prog W = .ok (.string ⟨er.l.toArray⟩) W) := Lib.hid fun W hW => by
                  have hb2 := HAL.out.trans (hW.mono HAL.out.size)
                  refine ⟨(hb2.cell (p := ⟨gl, t, none⟩) (block_lt_of_cell HCL.out)).trans HCL.out, ?_, conv_row br.c HRA.out (Nat.le_refl _) W hb2, conv_row er.cd HRB.out (Nat.le_refl _) W hb2⟩
                  have h2 := (hW.block _ (Array.getElem?_eq_some_iff.1 HBX.out).1).trans HBX.out
                  rw [cell_of_row W _ _ _ _ (0, 0) h2]; rfl
                refine wp_region_noPanic ?_
                refine wp_region_held_drew (S := (fun W => Below (wl.heap.size) wl W)) (by kernel_rfl) (Below.refl _ _).drew (fun hH0 => ?_)
                have hH0 : Below (wl.heap.size) wl wl.drew := hH0
                generalize wl.drew = wd3000 at *
                refine wpAnyH_take (i := 0) (oi := { dst := some 106, op := Op.move (Operand.tmp 14), type := 3, pos := "law.go:80", after := #[], guard := none }) (v := ?tkv3001) rfl (by kernel_rfl) (by kernel_rfl) (by kernel_rfl) (fun _ _ _ h => h) (Or.inl ⟨by rfl, ?tky3001⟩) hH0 ?tkr3001
                case tky3001 => (intro w' hSw; clear hSw; go_simp; try with_reducible rfl)
                try simp only [Act.put, List.setIfInBounds_toArray, List.set_cons_zero, List.set_cons_succ]
                refine wpAnyH_take (i := 1) (oi := { dst := some 107, op := Op.move (Operand.tmp 13), type := 43, pos := "law.go:80", after := #[], guard := none }) (v := ?tkv3002) rfl (by kernel_rfl) (by kernel_rfl) (by kernel_rfl) (fun _ _ _ h => h) (Or.inl ⟨by rfl, ?tky3002⟩) hH0 ?tkr3002
                case tky3002 => (intro w' hSw; clear hSw; go_simp; try with_reducible rfl)
                try simp only [Act.put, List.setIfInBounds_toArray, List.set_cons_zero, List.set_cons_succ]
                refine wpAnyH_take (i := 2) (oi := { dst := some 108, op := Op.call { callee := Callee.builtin Builtin.len, args := #[Operand.tmp 107], argTypes := #[43] }, type := 3, pos := "law.go:80", after := #[{ on := 1, ground := Ground.data }], guard := none }) (v := ?tkv3003) rfl (by kernel_rfl) (by kernel_rfl) (by kernel_rfl) (fun _ _ _ h => h) (Or.inl ⟨by rfl, ?tky3003⟩) hH0 ?tkr3003
                case tky3003 => (intro w' hSw; clear hSw; go_simp; try with_reducible rfl)
                try simp only [Act.put, List.setIfInBounds_toArray, List.set_cons_zero, List.set_cons_succ]
                refine wpAnyH_take (i := 3) (oi := { dst := some 109, op := Op.binOp BinOp.geq 3 (Operand.tmp 106) (Operand.tmp 108) 3, type := 4, pos := "law.go:80", after := #[{ on := 0, ground := Ground.data }, { on := 2, ground := Ground.data }], guard := none }) (v := ?tkv3004) rfl (by kernel_rfl) (by kernel_rfl) (by kernel_rfl) (fun _ _ _ h => h) (Or.inl ⟨by rfl, ?tky3004⟩) hH0 ?tkr3004
                case tky3004 => (intro w' hSw; clear hSw; go_simp; try with_reducible rfl)
                try simp only [Act.put, List.setIfInBounds_toArray, List.set_cons_zero, List.set_cons_succ]
                refine wpAnyH_take (i := 4) (oi := { dst := some 110, op := Op.move (Operand.tmp 109), type := 4, pos := "law.go:80", after := #[{ on := 3, ground := Ground.data }], guard := none }) (v := ?tkv3005) rfl (by kernel_rfl) (by kernel_rfl) (by kernel_rfl) (fun _ _ _ h => h) (Or.inl ⟨by rfl, ?tky3005⟩) hH0 ?tkr3005
                case tky3005 => (intro w' hSw; clear hSw; go_simp; try with_reducible rfl)
                try simp only [Act.put, List.setIfInBounds_toArray, List.set_cons_zero, List.set_cons_succ]
                refine wpAnyH_take (i := 5) (oi := { dst := some 111, op := Op.move (Operand.tmp 13), type := 43, pos := "law.go:80", after := #[{ on := 4, ground := Ground.guard }], guard := some (4, false) }) (v := ?tkv3006) rfl (by kernel_rfl) (by kernel_rfl) (by kernel_rfl) (fun _ _ _ h => h) (Or.inl ⟨by rfl, ?tky3006⟩) hH0 ?tkr3006
                case tky3006 => (intro w' hSw; clear hSw; go_simp; try with_reducible rfl)
                try simp only [Act.put, List.setIfInBounds_toArray, List.set_cons_zero, List.set_cons_succ]
                refine wpAnyH_take (i := 6) (oi := { dst := some 112, op := Op.move (Operand.tmp 14), type := 3, pos := "law.go:80", after := #[{ on := 4, ground := Ground.guard }], guard := some (4, false) }) (v := ?tkv3007) rfl (by kernel_rfl) (by kernel_rfl) (by kernel_rfl) (fun _ _ _ h => h) (Or.inl ⟨by rfl, ?tky3007⟩) hH0 ?tkr3007
                case tky3007 => (intro w' hSw; clear hSw; go_simp; try with_reducible rfl)
                try simp only [Act.put, List.setIfInBounds_toArray, List.set_cons_zero, List.set_cons_succ]
                refine wpAnyH_take (i := 7) (oi := { dst := some 113, op := Op.indexAddr 43 (Operand.tmp 111) (Operand.tmp 112), type := 0, pos := "law.go:80", after := #[{ on := 5, ground := Ground.data }, { on := 6, ground := Ground.data }, { on := 4, ground := Ground.guard }], guard := some (4, false) }) (v := ?tkv3008) rfl (by kernel_rfl) (by kernel_rfl) (by kernel_rfl) (fun _ _ _ h => h) (Or.inl ⟨by rfl, ?tky3008⟩) hH0 ?tkr3008
                case tky3008 => (intro w' hSw; clear hSw; go_simp; try with_reducible rfl)
                try simp only [Act.put, List.setIfInBounds_toArray, List.set_cons_zero, List.set_cons_succ]
                refine wpAnyH_take (i := 8) (oi := { dst := some 114, op := Op.load 30 (Operand.tmp 113), type := 30, pos := "law.go:80", after := #[{ on := 7, ground := Ground.data }, { on := 4, ground := Ground.guard }], guard := some (4, false) }) (v := ?tkv3009) rfl (by kernel_rfl) (by kernel_rfl) (by kernel_rfl) (fun _ _ _ h => h) (Or.inl ⟨by rfl, ?tky3009⟩) hH0 ?tkr3009
                case tky3009 => (intro w' hSw; have z0 := HF22.out _ hSw; clear hSw; go_simp; try with_reducible rfl)
                try simp only [Act.put, List.setIfInBounds_toArray, List.set_cons_zero, List.set_cons_succ]
                refine wpAnyH_take (i := 9) (oi := { dst := some 115, op := Op.convert 30 9 (Operand.tmp 114), type := 9, pos := "law.go:80", after := #[{ on := 8, ground := Ground.data }, { on := 4, ground := Ground.guard }], guard := some (4, false) }) (v := ?tkv3010) rfl (by kernel_rfl) (by kernel_rfl) (by kernel_rfl) (fun _ _ _ h => h) (Or.inl ⟨by rfl, ?tky3010⟩) hH0 ?tkr3010
                case tky3010 => (intro w' hSw; have z0 := HF22.out _ hSw; clear hSw; go_simp; try with_reducible rfl)
                try simp only [Act.put, List.setIfInBounds_toArray, List.set_cons_zero, List.set_cons_succ]
                refine wpAnyH_take (i := 10) (oi := { dst := some 116, op := Op.fieldAddr 49 (Operand.tmp 15) 1, type := 0, pos := "law.go:80", after := #[{ on := 4, ground := Ground.guard }], guard := some (4, false) }) (v := ?tkv3011) rfl (by kernel_rfl) (by kernel_rfl) (by kernel_rfl) (fun _ _ _ h => h) (Or.inl ⟨by rfl, ?tky3011⟩) hH0 ?tkr3011
                case tky3011 => (intro w' hSw; clear hSw; go_simp; try with_reducible rfl)
                try simp only [Act.put, List.setIfInBounds_toArray, List.set_cons_zero, List.set_cons_succ]
                refine wpAnyH_take (i := 11) (oi := { dst := some 117, op := Op.load 30 (Operand.tmp 116), type := 30, pos := "law.go:80", after := #[{ on := 10, ground := Ground.data }, { on := 4, ground := Ground.guard }], guard := some (4, false) }) (v := ?tkv3012) rfl (by kernel_rfl) (by kernel_rfl) (by kernel_rfl) (fun _ _ _ h => h) (Or.inl ⟨by rfl, ?tky3012⟩) hH0 ?tkr3012
                case tky3012 => (intro w' hSw; have z0 := HF22.out _ hSw; clear hSw; go_simp; try with_reducible rfl)
                try simp only [Act.put, List.setIfInBounds_toArray, List.set_cons_zero, List.set_cons_succ]
                refine wpAnyH_take (i := 12) (oi := { dst := some 118, op := Op.convert 30 9 (Operand.tmp 117), type := 9, pos := "law.go:80", after := #[{ on := 11, ground := Ground.data }, { on := 4, ground := Ground.guard }], guard := some (4, false) }) (v := ?tkv3013) rfl (by kernel_rfl) (by kernel_rfl) (by kernel_rfl) (fun _ _ _ h => h) (Or.inl ⟨by rfl, ?tky3013⟩) hH0 ?tkr3013
                case tky3013 => (intro w' hSw; have z0 := HF22.out _ hSw; clear hSw; go_simp; try with_reducible rfl)
                try simp only [Act.put, List.setIfInBounds_toArray, List.set_cons_zero, List.set_cons_succ]
                refine wpAnyH_take (i := 13) (oi := { dst := some 119, op := Op.binOp BinOp.neq 9 (Operand.tmp 115) (Operand.tmp 118) 9, type := 4, pos := "law.go:80", after := #[{ on := 9, ground := Ground.data }, { on := 12, ground := Ground.data }, { on := 4, ground := Ground.guard }], guard := some (4, false) }) (v := ?tkv3014) rfl (by kernel_rfl) (by kernel_rfl) (by kernel_rfl) (fun _ _ _ h => h) (Or.inl ⟨by rfl, ?tky3014⟩) hH0 ?tkr3014
                case tky3014 => (intro w' hSw; clear hSw; go_simp; try with_reducible rfl)
                try simp only [Act.put, List.setIfInBounds_toArray, List.set_cons_zero, List.set_cons_succ]
                refine wpAnyH_take (i := 14) (oi := { dst := some 120, op := Op.pick (Operand.tmp 110) (Operand.const (Value.bool true)) (Operand.tmp 119), type := 4, pos := "law.go:80", after := #[{ on := 4, ground := Ground.data }, { on := 13, ground := Ground.data }], guard := none }) (v := ?tkv3015) rfl (by kernel_rfl) (by kernel_rfl) (by kernel_rfl) (fun _ _ _ h => h) (Or.inl ⟨by rfl, ?tky3015⟩) hH0 ?tkr3015
                case tky3015 => (intro w' hSw; clear hSw; go_simp; try with_reducible rfl)
                try simp only [Act.put, List.setIfInBounds_toArray, List.set_cons_zero, List.set_cons_succ]
                refine wpAnyH_done (by kernel_rfl) ?_ _
                refine NoPanic.normal ?_
                have HBE := Lib.hid (HBL.out.trans ((hH0).mono HBL.out.size))
                go_wp2_with fail
                go_roundw
                case rel => exact ⟨t + 1, by omega, by go_num, HBE⟩
                case measure => simp [intOf]; omega
              · obtain rfl : n = t := by omega
                clear hlt
                have HBF := Lib.hid (HBM.out.trans (HBW.out.mono HBM.out.size))
                clear HBK HBW
                go_wp2_with fail
                refine (awake6_any _ (HT.out.grow HBF.out)).mono ?_
                rintro e w9 ⟨rfl, hb9⟩
                have HB9 := Lib.hid ((HBF.out).trans (hb9.out.mono (HBF.out).size))
                clear hb9
                go_wp2_with fail
                go_ret
                exact ⟨rfl, HB9.out⟩
          · have hlt2 : rankM M < n := by
              have h1 := rowsTo_le M n
              rw [rowsTo_rank HI.out.len] at h1
              omega
            have HSO := Lib.hid (solveI_no hmA hf)
            obtain ⟨rk, hrk⟩ : ∃ r, rankM M = r := ⟨_, rfl⟩
            rw [hrk] at hrl hlt2
            have hrki : (rk : Int) < (n : Int) := by omega
            have HCW : Hid (∀ W, Below wm.heap.size wm W → W.cell? ⟨gw, 2, none⟩ = some (.slice A2 rk c2)) := Lib.hid fun W hW => by
              have h2 := (hW.block _ hh0.1).trans hh
              rw [hrl] at h2
              rw [cell_of_row W _ _ _ _ (0, 0) h2]; rfl
            clear hf hmA hmB hh hh0 hls hes hrl hlt2 hrk
            go_wp2_with fail
            refine HSO.out.mono ?_
            rintro e wq ⟨rfl, hbq⟩
            have hcw := HCW.out wq hbq.out
            have HBF := Lib.hid (HBM.out.trans (hbq.out.mono HBM.out.size))
            clear hbq HSO
            go_wp2_with fail
            refine (awake6_any _ (HT.out.grow HBF.out)).mono ?_
            rintro e w9 ⟨rfl, hb9⟩
            have HB9 := Lib.hid ((HBF.out).trans (hb9.out.mono (HBF.out).size))
            clear hb9
            go_wp2_with fail
            go_ret
            exact ⟨rfl, HB9.out⟩
    · have hbad : x < 1 ∨ 256 < x ∨ y < 1 ∨ 16 < y := by omega
      have HNW := Lib.hid (newM_bad x y w1 hbad)
      have HRN := Lib.hid (rnewM_bad x y w1 hbad)
      clear hgood hbad
      go_wp2_with fail
      refine HNW.out.mono ?_
      rintro e w2 ⟨rfl, rfl⟩
      go_wp2_with fail
      refine HRN.out.mono ?_
      rintro e w2 ⟨rfl, rfl⟩
      go_wp2_with fail
      refine (awake6_any _ (HT.out.grow HB1.out)).mono ?_
      rintro e w9 ⟨rfl, hb9⟩
      have HB9 := Lib.hid ((HB1.out).trans (hb9.out.mono (HB1.out).size))
      clear hb9
      go_wp2_with fail
      go_ret
      exact ⟨rfl, HB9.out⟩
end Go.Proofs.YtgeodhffgbhmaaaDoor.El
