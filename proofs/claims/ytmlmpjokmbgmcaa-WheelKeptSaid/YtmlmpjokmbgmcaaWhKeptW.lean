/- WheelKept: the walk. -/
import Derived.Test.YtmlmpjokmbgmcaaWhKeptM
namespace Go.Proofs.Ytmlmpjokmbgmcaa
open Go.RowKit
set_option maxRecDepth 100000 in
set_option maxHeartbeats 12800000 in
theorem wkept_walk (x0 : Int) (_ : -9223372036854775808 ≤ x0) (_ : x0 ≤ 9223372036854775807) (A : Option Addr) (n cap : Nat) (ys : List WCall) (w : World) (hys : WCalls w A n ys) :
    Calls Try.prog 10 #[.int .i64 x0, .slice A n cap] w fun e w' => e = .returned (.bool true) ∧ Below w.heap.size w w' := by
  obtain ⟨i0, hi, hz0, hz1, hz2⟩ := info_parts Try.info73
  obtain ⟨j0, hj, hk0, hk1, hk2⟩ := info_parts Try.info5
  obtain ⟨p, hp, hnp⟩ := pick_in x0 16 (by omega) (by omega)
  obtain ⟨size, hn⟩ : ∃ n : Nat, n = p + 1 := ⟨_, rfl⟩
  have hs1 : 1 ≤ size := by omega
  have hs2 : size ≤ 16 := by omega
  have HW1 : Hid (wrap64 (1 + (p : Int)) = (size : Int)) := by show _ = _; rw [IntWalk.wrap64_in _ ⟨by omega, by omega⟩]; omega
  have HNP := Lib.hid hnp
  have HYS := Lib.hid hys
  have HYL := Lib.hid hys.1
  have HFEW := Lib.hid (few18_any A n cap ys w hys)
  clear hnp hp hn hys
  go_enter Try.func10, Try.ntmps10
  go_wp2_with fail
  refine HFEW.out.mono ?_
  rintro e w0 ⟨r, rfl, hfew, hb0⟩
  cases r with
  | false =>
    go_wp2_with fail
    refine (awake18_any w0).mono ?_
    rintro e w3 ⟨rfl, hb3⟩
    go_wp2_with fail
    go_ret
    exact ⟨rfl, hb0.out.trans (hb3.out.mono hb0.out.size)⟩
  | true =>
    have HFW := Lib.hid (hfew.out rfl)
    have hnl : n ≤ 80 := by have := HFW.out.1; rw [HYL.out] at this; exact this
    clear hfew HFEW
    go_upto_region 4 with (first | rw [HNP.out] | rw [HW1.out])
    clear HNP HW1
    have hszi : (size : Int) ≤ 16 := by omega
    have hszi1 : (1 : Int) ≤ (size : Int) := by omega
    go_wp2_with fail
    refine (new_any 100 w0 (by omega)).mono ?_
    rintro e w1 ⟨gf, rfl, hgf, hf, hb⟩
    have hbl : opW ((flNew 100).fill 0 3584) 5 size 8 = ⟨5, size, [], -1, 0⟩ := blank_new hs2 fun i _ hi => by
      show (if 0 ≤ i ∧ i < 0 + 3584 then (255 : UInt8) else _) = 255
      rw [if_pos (by omega)]
    have hB1 : Below w.heap.size w w1 := hb0.out.trans (hb.out.mono hb0.out.size)
    have HO1 := Lib.hid (open_wo w gf 5 size (size : Int) rfl ((flNew 100).fill 0 3584) 0 w1 hf.out (new_ok 100 (by decide)) rfl hs1 hs2 hB1 (Nat.le_trans hb0.out.size hgf))
    have HP0 : Hid (((flNew 100).fill 0 3584).down = false ∧ ((flNew 100).fill 0 3584).wear = 100 ∧ ∀ s, ((flNew 100).fill 0 3584).er s = 0) := ⟨rfl, rfl, fun _ => rfl⟩
    generalize (flNew 100).fill 0 3584 = f0 at *
    have HBL := Lib.hid hbl
    clear hf hb hB1 hbl hb0
    go_wp2_with fail
    refine HO1.out.mono ?_
    rintro e w2 ⟨gw, rfl, hw2, hb2⟩
    have HKI : Hid (KI w gw gf size f0 0 (fun b => w1.heap.size ≤ b ∧ b < w2.heap.size) (fun _ => False) none 0 0 [] w2) := ⟨by simpa using hw2.out, HP0.out.1, HP0.out.2.1, fun s => by rw [HP0.out.2.2 s]; simp, RecW.nil _ _, by rw [HBL.out]; rfl, fun b hb => hb.elim⟩
    clear hw2 hb2 HO1 HP0 HBL
    go_wp2_with fail
    go_loopw [6, 7, 8, 36] (fun s6 s7 s8 i wr => ∃ (k gw : Nat) (e7 : Int) (f : Fl) (P Pw : Nat → Prop) (Aw : Option Addr) (nw cw : Nat) (ew : List RRow), k ≤ n ∧ i = .int .i64 k ∧ s6 = .pointer (some ⟨gw, 0, none⟩) ∧ s7 = .int .i64 e7 ∧ s8 = .slice Aw nw cw ∧ Hid (KI w gw gf size f k P Pw Aw nw cw ew wr)) (fun _ _ _ i _ => n - (intOf i).toNat)
    case atStart => exact ⟨0, gw, 0, f0, _, _, none, 0, 0, [], by omega, rfl, rfl, rfl, rfl, HKI⟩
    case round =>
      clear HKI
      obtain ⟨k, gw, e7, f, P, Pw, Aw, nw, cw, ew, hk, rfl, rfl, rfl, rfl, hki⟩ := hrel
      obtain ⟨wq, rfl⟩ : ∃ wq : World, wq = wr := ⟨_, rfl⟩
      by_cases hlt : k < n
      · have hkk : (k : Int) < (n : Int) := by omega
        obtain ⟨b, o, y, rfl, hbl, hym, hyk, hyg, c0, c1, c2, c3, c4⟩ := HYS.out.at_ hki.out.wo.b hlt
        have hy40 := HFW.out.2 y hym
        obtain ⟨yd, yN, yT, yn, yA, ym, yc, yl⟩ := y
        obtain ⟨hyrow, hymc, hycm, -, -, hyT, hyid⟩ := hyg
        dsimp only at c0 c1 c2 c3 c4 hyrow hymc hycm hyid hy40
        have hyidv : yn < 4294967296 := hyid
        go_upto_region 12 with fail
        obtain ⟨wb, hwb⟩ : ∃ wb, wq.alloc (.cells #[.int .i64 yd, .int .i64 yN, .int .i64 yT, .int .u32 (yn : Int), .slice yA ym yc] 63) = wb := ⟨_, rfl⟩
        have hba : Below wq.heap.size wq wb := by rw [← hwb]; exact (Below.refl _ _).alloc (Nat.le_refl _) _
        have hcx : wb.heap[wq.heap.size]? = some (.cells #[.int .i64 yd, .int .i64 yN, .int .i64 yT, .int .u32 (yn : Int), .slice yA ym yc] 63 (0, 0)) := by rw [← hwb]; exact heap_alloc_new _ _
        rw [hwb]
        obtain ⟨gc, hgc⟩ : ∃ gc, wq.heap.size = gc := ⟨_, rfl⟩
        rw [hgc] at hcx ⊢
        have HGCL := Lib.hid ((Array.getElem?_eq_some_iff.1 hcx).1)
        have HCX := Lib.hid hcx
        have HKI := Lib.hid (hki.out.below hba)
        have HROW : Hid (Row wb wb.heap.size yA ym (bv yl)) := ((hyrow.below (hki.out.wo.b.trans (hba.mono hki.out.wo.b.size))).more (Nat.le_trans hki.out.wo.b.size hba.size))
        have HCB : Hid (∀ W : World, Below wb.heap.size wb W → W.cell? ⟨gc, 3, none⟩ = some (.int .u32 (yn : Int)) ∧ W.cell? ⟨gc, 4, none⟩ = some (.slice yA ym yc)) := fun W hW => by
          have hz := (hW.block gc HGCL.out).trans HCX.out
          exact ⟨by rw [cell_of_row W gc 3 _ _ (0, 0) hz]; rfl, by rw [cell_of_row W gc 4 _ _ (0, 0) hz]; rfl⟩
        obtain ⟨d, hd⟩ : ∃ d, (yl ++ List.replicate size 0).take size = d := ⟨_, rfl⟩
        have HDD := Lib.hid hd
        have HDL : Hid (d.length = size) := by
          show _ = _
          rw [← hd]; simp
        clear hwb hba hcx hgc hki hyrow hd c0 c1 c2 c3 c4 hyk hym
        go_cut [11] (fun s11 wx => ∃ gr gd cd, s11 = .pointer (some ⟨gr, 0, none⟩) ∧ Hid (RBx wb yn size d gr gd cd wx))
        case first =>
            refine wp_region_noPanic ?_
            refine wp_region_held_drew (S := (fun W => Below (wb.heap.size) wb W)) (by kernel_rfl) (Below.refl _ _).drew (fun hH0 => ?_)
            have hH0 : Below (wb.heap.size) wb wb.drew := hH0
            generalize wb.drew = wd700 at *
            refine wpAnyH_take (i := 0) (oi := { dst := some 40, op := Op.fieldAddr 63 (Operand.tmp 10) 3, type := 0, pos := "law.go:109", after := #[], guard := none }) (v := ?tkv701) rfl (by kernel_rfl) (by kernel_rfl) (by kernel_rfl) (fun _ _ _ h => h) (Or.inl ⟨by rfl, ?tky701⟩) hH0 ?tkr701
            case tky701 => (intro w' hSw; clear hSw; go_simp; try with_reducible rfl)
            try simp only [Act.put, List.setIfInBounds_toArray, List.set_cons_zero, List.set_cons_succ]
            refine wpAnyH_take (i := 1) (oi := { dst := some 41, op := Op.load 53 (Operand.tmp 40), type := 53, pos := "law.go:109", after := #[{ on := 0, ground := Ground.data }], guard := none }) (v := ?tkv702) rfl (by kernel_rfl) (by kernel_rfl) (by kernel_rfl) (fun _ _ _ h => h) (Or.inl ⟨by rfl, ?tky702⟩) hH0 ?tkr702
            case tky702 => (intro w' hSw; have z0 := HCB.out _ hSw; clear hSw; go_simp; try with_reducible rfl)
            try simp only [Act.put, List.setIfInBounds_toArray, List.set_cons_zero, List.set_cons_succ]
            refine wpAnyH_take (i := 3) (oi := { dst := some 43, op := Op.fieldAddr 63 (Operand.tmp 10) 4, type := 0, pos := "law.go:109", after := #[], guard := none }) (v := ?tkv703) rfl (by kernel_rfl) (by kernel_rfl) (by kernel_rfl) (fun _ _ _ h => h) (Or.inl ⟨by rfl, ?tky703⟩) hH0 ?tkr703
            case tky703 => (intro w' hSw; clear hSw; go_simp; try with_reducible rfl)
            try simp only [Act.put, List.setIfInBounds_toArray, List.set_cons_zero, List.set_cons_succ]
            refine wpAnyH_take (i := 4) (oi := { dst := some 44, op := Op.load 27 (Operand.tmp 43), type := 27, pos := "law.go:109", after := #[{ on := 3, ground := Ground.data }], guard := none }) (v := ?tkv704) rfl (by kernel_rfl) (by kernel_rfl) (by kernel_rfl) (fun _ _ _ h => h) (Or.inl ⟨by rfl, ?tky704⟩) hH0 ?tkr704
            case tky704 => (intro w' hSw; have z0 := HCB.out _ hSw; clear hSw; go_simp; try with_reducible rfl)
            try simp only [Act.put, List.setIfInBounds_toArray, List.set_cons_zero, List.set_cons_succ]
            refine wpAnyH_take (i := 6) (oi := { dst := some 46, op := Op.move (Operand.tmp 0), type := 3, pos := "law.go:109", after := #[], guard := none }) (v := ?tkv705) rfl (by kernel_rfl) (by kernel_rfl) (by kernel_rfl) (fun _ _ _ h => h) (Or.inl ⟨by rfl, ?tky705⟩) hH0 ?tkr705
            case tky705 => (intro w' hSw; clear hSw; go_simp; try with_reducible rfl)
            try simp only [Act.put, List.setIfInBounds_toArray, List.set_cons_zero, List.set_cons_succ]
            refine wpAnyH_take (i := 8) (oi := { dst := some 48, op := Op.move (Operand.tmp 0), type := 3, pos := "law.go:109", after := #[], guard := none }) (v := ?tkv706) rfl (by kernel_rfl) (by kernel_rfl) (by kernel_rfl) (fun _ _ _ h => h) (Or.inl ⟨by rfl, ?tky706⟩) hH0 ?tkr706
            case tky706 => (intro w' hSw; clear hSw; go_simp; try with_reducible rfl)
            try simp only [Act.put, List.setIfInBounds_toArray, List.set_cons_zero, List.set_cons_succ]
            refine wpAnyH_ready (rs := [2, 11]) (by kernel_rfl) (by simp) ?_
            refine AllReadyH.cons (o := { dst := some 42, op := Op.buildSlice 27 0 #[], type := 27, pos := "law.go:109", after := #[], guard := none }) rfl (fun K hK => ?_) (AllReadyH.cons (o := { dst := some 11, op := Op.alloc 73, type := 0, pos := "law.go:109", after := #[], guard := none }) rfl (fun K hK => ?_) AllReadyH.nil)
            · go_simp
              have hb707 : Below wd700.heap.size wd700 (wd700.alloc (.cells #[] 5)) := (Below.refl _ _).alloc (Nat.le_refl _) _
              have OE707 : Hid (OwnB wb.heap.size (.slice (some ⟨wd700.heap.size, 0, none⟩) 0 0) 0 [] (wd700.alloc (.cells #[] 5))) := Lib.hid ⟨own_lit (cs := #[]) rfl ((hH0).size) rfl (by unfold maxLen; omega)⟩
              generalize (wd700.alloc (.cells #[] 5)) = wn707 at *
              have hS707 : Below (wb.heap.size) wb wn707 := (hH0).trans (hb707.mono (hH0).size)
              refine hK.out _ _ hS707 (fun hH707 => ?_)
              have hH707 : Below (wb.heap.size) wb wn707 := hH707
              clear hK K hS707
              try simp only [Act.put, List.setIfInBounds_toArray, List.set_cons_zero, List.set_cons_succ]
              refine wpAnyH_ready (rs := [5, 11]) (by kernel_rfl) (by simp) ?_
              refine AllReadyH.cons (o := { dst := some 45, op := Op.call { callee := Callee.builtin Builtin.append, args := #[Operand.tmp 42, Operand.tmp 44], argTypes := #[27, 27] }, type := 27, pos := "law.go:109", after := #[{ on := 2, ground := Ground.data }, { on := 4, ground := Ground.data }], guard := none }) rfl (fun K hK => ?_) (AllReadyH.cons (o := { dst := some 11, op := Op.alloc 73, type := 0, pos := "law.go:109", after := #[], guard := none }) rfl (fun K hK => ?_) AllReadyH.nil)
              · rw [if_pos (by rfl)]
                refine wp_app (.tmp 42) (.tmp 44) 27 rfl wb.heap.size 5 j0 (.int .u8 0) 1 Try.underlying27 hj hk0 hk1 hk2 rfl _ 0 (bv []) rfl OE707.out.own wb.heap.size yA ym yc (bv yl) rfl (HROW.out.below (hH707)) (bv_one _) (by unfold maxLen; omega) (by omega) ((hH707).size) ?_
                intro v708 wn708 hown708 hg708 hat708
                rw [Nat.zero_add, ← bv_append, List.nil_append] at hown708
                obtain ⟨A708, c708, rfl, _⟩ := own_slice hown708
                have O5708 : Hid (OwnB wb.heap.size (.slice A708 ym c708) ym yl wn708) := Lib.hid ⟨hown708⟩
                have hS708 : Below (wb.heap.size) wb wn708 := (below_app (hH707) ((hH707).size) OE707.out.own (Nat.le_refl _) hg708)
                refine hK.out _ _ hS708 (fun hH708 => ?_)
                have hH708 : Below (wb.heap.size) wb wn708 := hH708
                clear hK K hS708
                try simp only [Act.put, List.setIfInBounds_toArray, List.set_cons_zero, List.set_cons_succ]
                refine wpAnyH_ready (rs := [7, 11]) (by kernel_rfl) (by simp) ?_
                refine AllReadyH.cons (o := { dst := some 47, op := Op.call { callee := Callee.builtin Builtin.append, args := #[Operand.tmp 45, Operand.tmp 46], argTypes := #[27, 3] }, type := 27, pos := "law.go:109", after := #[{ on := 5, ground := Ground.data }, { on := 6, ground := Ground.data }, { on := 5, ground := Ground.chain }], guard := none }) rfl (fun K hK => ?_) (AllReadyH.cons (o := { dst := some 11, op := Op.alloc 73, type := 0, pos := "law.go:109", after := #[], guard := none }) rfl (fun K hK => ?_) AllReadyH.nil)
                · rw [if_pos (by rfl)]
                  refine wp_appZ (.tmp 45) (.tmp 46) 27 3 rfl wb.heap.size 5 j0 Try.underlying27 Try.underlying3 hj hk0 hk1 hk2 _ ym yl rfl O5708.out.own size rfl (by omega) (by omega) ((hH708).size) ?_
                  intro v709 wn709 hown709 hg709
                  obtain ⟨A709, cd, rfl, _⟩ := own_slice hown709
                  obtain ⟨gd, cq709, hv709, hgd709, hlt709⟩ := hown709.form (by omega)
                  injection hv709 with e1709 e2709 e3709
                  subst e1709 e3709
                  have hcd709 := own_cap hown709
                  have i1709 : (size : Int) ≤ cd := by omega
                  have O7709 : Hid (OwnB wb.heap.size (.slice (some ⟨gd, 0, none⟩) (ym + size) cd) (ym + size) (yl ++ List.replicate size 0) wn709) := Lib.hid ⟨hown709⟩
                  have hS709 : Below (wb.heap.size) wb wn709 := (below_app (hH708) ((hH708).size) O5708.out.own (Nat.le_refl _) hg709)
                  refine hK.out _ _ hS709 (fun hH709 => ?_)
                  have hH709 : Below (wb.heap.size) wb wn709 := hH709
                  clear hK K hS709
                  try simp only [Act.put, List.setIfInBounds_toArray, List.set_cons_zero, List.set_cons_succ]
                  refine wpAnyH_take (i := 9) (oi := { dst := some 49, op := Op.slice 27 (Operand.tmp 47) none (some (Operand.tmp 48)) none, type := 27, pos := "law.go:109", after := #[{ on := 7, ground := Ground.data }, { on := 8, ground := Ground.data }], guard := none }) (v := ?tkv710) rfl (by kernel_rfl) (by kernel_rfl) (by kernel_rfl) (fun _ _ _ h => h) (Or.inl ⟨by rfl, ?tky710⟩) hH709 ?tkr710
                  case tky710 => (intro w' hSw; have z0 := HCB.out _ hSw; clear hSw; go_simp; try with_reducible rfl)
                  try simp only [Act.put, List.setIfInBounds_toArray, List.set_cons_zero, List.set_cons_succ]
                  refine wpAnyH_take (i := 10) (oi := { dst := some 50, op := Op.build 73 #[(0, Operand.tmp 41), (1, Operand.tmp 49)], type := 73, pos := "law.go:109", after := #[{ on := 1, ground := Ground.data }, { on := 9, ground := Ground.data }], guard := none }) (v := ?tkv711) rfl (by kernel_rfl) (by kernel_rfl) (by kernel_rfl) (fun _ _ _ h => h) (Or.inl ⟨by rfl, ?tky711⟩) hH709 ?tkr711
                  case tky711 => (intro w' hSw; clear hSw; go_simp; try with_reducible rfl)
                  try simp only [Act.put, List.setIfInBounds_toArray, List.set_cons_zero, List.set_cons_succ]
                  refine wpAnyH_ready (rs := [11]) (by kernel_rfl) (by simp) ?_
                  refine AllReadyH.cons (o := { dst := some 11, op := Op.alloc 73, type := 0, pos := "law.go:109", after := #[], guard := none }) rfl (fun K hK => ?_) AllReadyH.nil
                  go_simp
                  have hb712 : Below wn709.heap.size wn709 (wn709.alloc (.cells #[.int .u32 0, .slice none 0 0] 73)) := (Below.refl _ _).alloc (Nat.le_refl _) _
                  have BX712 : Hid ((wn709.alloc (.cells #[.int .u32 0, .slice none 0 0] 73)).heap[wn709.heap.size]? = some (.cells #[.int .u32 0, .slice none 0 0] 73 (0, 0))) := Lib.hid (heap_alloc_new _ _)
                  have LX712 : Hid (wn709.heap.size < (wn709.alloc (.cells #[.int .u32 0, .slice none 0 0] 73)).heap.size) := Lib.hid (by simp)
                  have GE712 : Hid (wb.heap.size ≤ wn709.heap.size) := Lib.hid ((hH709).size)
                  generalize (wn709.alloc (.cells #[.int .u32 0, .slice none 0 0] 73)) = wn712 at *
                  have O7709_712 := Lib.hid (O7709.out.below hb712)
                  have hS712 : Below (wb.heap.size) wb wn712 := (hH709).trans (hb712.mono (hH709).size)
                  refine hK.out _ _ hS712 (fun hH712 => ?_)
                  have hH712 : Below (wb.heap.size) wb wn712 := hH712
                  clear hK K hS712
                  try simp only [Act.put, List.setIfInBounds_toArray, List.set_cons_zero, List.set_cons_succ]
                  refine wpAnyH_ready (rs := [12]) (by kernel_rfl) (by simp) ?_
                  refine AllReadyH.cons (o := { dst := none, op := Op.store 73 (Operand.tmp 11) (Operand.tmp 50), type := 0, pos := "law.go:109", after := #[{ on := 11, ground := Ground.data }, { on := 10, ground := Ground.data }, { on := 7, ground := Ground.chain }, { on := 0, ground := Ground.phase }, { on := 1, ground := Ground.phase }, { on := 2, ground := Ground.phase }, { on := 3, ground := Ground.phase }, { on := 4, ground := Ground.phase }, { on := 5, ground := Ground.phase }, { on := 6, ground := Ground.phase }, { on := 7, ground := Ground.phase }, { on := 8, ground := Ground.phase }, { on := 9, ground := Ground.phase }, { on := 10, ground := Ground.phase }, { on := 11, ground := Ground.phase }], guard := none }) rfl (fun K hK => ?_) AllReadyH.nil
                  rw [if_pos (by rfl)]
                  refine wp_store_row _ _ _ rfl wn709.heap.size #[.int .u32 (yn : Int), .slice (some ⟨gd, 0, none⟩) size cd] rfl rfl _ _ BX712.out (by kernel_rfl) rfl (by simp [Value.oneCell']) ?_
                  have RBX := Lib.hid (rbx_of BX712.out O7709_712.out.own (hH712) GE712.out (by omega) HDD.out (yn := yn))
                  have hS713 : Below (wb.heap.size) wb (wn712.setRow wn709.heap.size #[.int .u32 (yn : Int), .slice (some ⟨gd, 0, none⟩) size cd]) := (below_setRowW (hH712) GE712.out _)
                  refine hK.out _ _ hS713 (fun hH713 => ?_)
                  have hH713 : Below (wb.heap.size) wb (wn712.setRow wn709.heap.size #[.int .u32 (yn : Int), .slice (some ⟨gd, 0, none⟩) size cd]) := hH713
                  clear hK K hS713
                  refine wpAnyH_done (by kernel_rfl) ?_ _
                  refine NoPanic.normal ?_
                  go_wp2_with fail
                  go_meet
                  exact ⟨wn709.heap.size, gd, cd, rfl, RBX⟩
                · go_simp
                  have hb714 : Below wn708.heap.size wn708 (wn708.alloc (.cells #[.int .u32 0, .slice none 0 0] 73)) := (Below.refl _ _).alloc (Nat.le_refl _) _
                  have BX714 : Hid ((wn708.alloc (.cells #[.int .u32 0, .slice none 0 0] 73)).heap[wn708.heap.size]? = some (.cells #[.int .u32 0, .slice none 0 0] 73 (0, 0))) := Lib.hid (heap_alloc_new _ _)
                  have LX714 : Hid (wn708.heap.size < (wn708.alloc (.cells #[.int .u32 0, .slice none 0 0] 73)).heap.size) := Lib.hid (by simp)
                  have GE714 : Hid (wb.heap.size ≤ wn708.heap.size) := Lib.hid ((hH708).size)
                  generalize (wn708.alloc (.cells #[.int .u32 0, .slice none 0 0] 73)) = wn714 at *
                  have O5708_714 := Lib.hid (O5708.out.below hb714)
                  have hS714 : Below (wb.heap.size) wb wn714 := (hH708).trans (hb714.mono (hH708).size)
                  refine hK.out _ _ hS714 (fun hH714 => ?_)
                  have hH714 : Below (wb.heap.size) wb wn714 := hH714
                  clear hK K hS714
                  try simp only [Act.put, List.setIfInBounds_toArray, List.set_cons_zero, List.set_cons_succ]
                  refine wpAnyH_ready (rs := [7]) (by kernel_rfl) (by simp) ?_
                  refine AllReadyH.cons (o := { dst := some 47, op := Op.call { callee := Callee.builtin Builtin.append, args := #[Operand.tmp 45, Operand.tmp 46], argTypes := #[27, 3] }, type := 27, pos := "law.go:109", after := #[{ on := 5, ground := Ground.data }, { on := 6, ground := Ground.data }, { on := 5, ground := Ground.chain }], guard := none }) rfl (fun K hK => ?_) AllReadyH.nil
                  rw [if_pos (by rfl)]
                  refine wp_appZ (.tmp 45) (.tmp 46) 27 3 rfl wb.heap.size 5 j0 Try.underlying27 Try.underlying3 hj hk0 hk1 hk2 _ ym yl rfl O5708_714.out.own size rfl (by omega) (by omega) ((hH714).size) ?_
                  intro v715 wn715 hown715 hg715
                  obtain ⟨A715, cd, rfl, _⟩ := own_slice hown715
                  obtain ⟨gd, cq715, hv715, hgd715, hlt715⟩ := hown715.form (by omega)
                  injection hv715 with e1715 e2715 e3715
                  subst e1715 e3715
                  have hcd715 := own_cap hown715
                  have i1715 : (size : Int) ≤ cd := by omega
                  have O7715 : Hid (OwnB wb.heap.size (.slice (some ⟨gd, 0, none⟩) (ym + size) cd) (ym + size) (yl ++ List.replicate size 0) wn715) := Lib.hid ⟨hown715⟩
                  have BXk715 := Lib.hid ((hg715.block wn708.heap.size LX714.out (fun e => own_ne O5708_714.out.own BX714.out e.symm)).trans BX714.out)
                  have LXk715 := Lib.hid (Nat.lt_of_lt_of_le LX714.out hg715.size)
                  have hS715 : Below (wb.heap.size) wb wn715 := (below_app (hH714) ((hH714).size) O5708_714.out.own (Nat.le_refl _) hg715)
                  refine hK.out _ _ hS715 (fun hH715 => ?_)
                  have hH715 : Below (wb.heap.size) wb wn715 := hH715
                  clear hK K hS715
                  try simp only [Act.put, List.setIfInBounds_toArray, List.set_cons_zero, List.set_cons_succ]
                  refine wpAnyH_take (i := 9) (oi := { dst := some 49, op := Op.slice 27 (Operand.tmp 47) none (some (Operand.tmp 48)) none, type := 27, pos := "law.go:109", after := #[{ on := 7, ground := Ground.data }, { on := 8, ground := Ground.data }], guard := none }) (v := ?tkv716) rfl (by kernel_rfl) (by kernel_rfl) (by kernel_rfl) (fun _ _ _ h => h) (Or.inl ⟨by rfl, ?tky716⟩) hH715 ?tkr716
                  case tky716 => (intro w' hSw; have z0 := HCB.out _ hSw; clear hSw; go_simp; try with_reducible rfl)
                  try simp only [Act.put, List.setIfInBounds_toArray, List.set_cons_zero, List.set_cons_succ]
                  refine wpAnyH_take (i := 10) (oi := { dst := some 50, op := Op.build 73 #[(0, Operand.tmp 41), (1, Operand.tmp 49)], type := 73, pos := "law.go:109", after := #[{ on := 1, ground := Ground.data }, { on := 9, ground := Ground.data }], guard := none }) (v := ?tkv717) rfl (by kernel_rfl) (by kernel_rfl) (by kernel_rfl) (fun _ _ _ h => h) (Or.inl ⟨by rfl, ?tky717⟩) hH715 ?tkr717
                  case tky717 => (intro w' hSw; clear hSw; go_simp; try with_reducible rfl)
                  try simp only [Act.put, List.setIfInBounds_toArray, List.set_cons_zero, List.set_cons_succ]
                  refine wpAnyH_ready (rs := [12]) (by kernel_rfl) (by simp) ?_
                  refine AllReadyH.cons (o := { dst := none, op := Op.store 73 (Operand.tmp 11) (Operand.tmp 50), type := 0, pos := "law.go:109", after := #[{ on := 11, ground := Ground.data }, { on := 10, ground := Ground.data }, { on := 7, ground := Ground.chain }, { on := 0, ground := Ground.phase }, { on := 1, ground := Ground.phase }, { on := 2, ground := Ground.phase }, { on := 3, ground := Ground.phase }, { on := 4, ground := Ground.phase }, { on := 5, ground := Ground.phase }, { on := 6, ground := Ground.phase }, { on := 7, ground := Ground.phase }, { on := 8, ground := Ground.phase }, { on := 9, ground := Ground.phase }, { on := 10, ground := Ground.phase }, { on := 11, ground := Ground.phase }], guard := none }) rfl (fun K hK => ?_) AllReadyH.nil
                  rw [if_pos (by rfl)]
                  refine wp_store_row _ _ _ rfl wn708.heap.size #[.int .u32 (yn : Int), .slice (some ⟨gd, 0, none⟩) size cd] rfl rfl _ _ BXk715.out (by kernel_rfl) rfl (by simp [Value.oneCell']) ?_
                  have RBX := Lib.hid (rbx_of BXk715.out O7715.out.own (hH715) GE714.out (by omega) HDD.out (yn := yn))
                  have hS718 : Below (wb.heap.size) wb (wn715.setRow wn708.heap.size #[.int .u32 (yn : Int), .slice (some ⟨gd, 0, none⟩) size cd]) := (below_setRowW (hH715) GE714.out _)
                  refine hK.out _ _ hS718 (fun hH718 => ?_)
                  have hH718 : Below (wb.heap.size) wb (wn715.setRow wn708.heap.size #[.int .u32 (yn : Int), .slice (some ⟨gd, 0, none⟩) size cd]) := hH718
                  clear hK K hS718
                  refine wpAnyH_done (by kernel_rfl) ?_ _
                  refine NoPanic.normal ?_
                  go_wp2_with fail
                  go_meet
                  exact ⟨wn708.heap.size, gd, cd, rfl, RBX⟩
              · go_simp
                have hb719 : Below wn707.heap.size wn707 (wn707.alloc (.cells #[.int .u32 0, .slice none 0 0] 73)) := (Below.refl _ _).alloc (Nat.le_refl _) _
                have BX719 : Hid ((wn707.alloc (.cells #[.int .u32 0, .slice none 0 0] 73)).heap[wn707.heap.size]? = some (.cells #[.int .u32 0, .slice none 0 0] 73 (0, 0))) := Lib.hid (heap_alloc_new _ _)
                have LX719 : Hid (wn707.heap.size < (wn707.alloc (.cells #[.int .u32 0, .slice none 0 0] 73)).heap.size) := Lib.hid (by simp)
                have GE719 : Hid (wb.heap.size ≤ wn707.heap.size) := Lib.hid ((hH707).size)
                generalize (wn707.alloc (.cells #[.int .u32 0, .slice none 0 0] 73)) = wn719 at *
                have OE707_719 := Lib.hid (OE707.out.below hb719)
                have hS719 : Below (wb.heap.size) wb wn719 := (hH707).trans (hb719.mono (hH707).size)
                refine hK.out _ _ hS719 (fun hH719 => ?_)
                have hH719 : Below (wb.heap.size) wb wn719 := hH719
                clear hK K hS719
                try simp only [Act.put, List.setIfInBounds_toArray, List.set_cons_zero, List.set_cons_succ]
                refine wpAnyH_ready (rs := [5]) (by kernel_rfl) (by simp) ?_
                refine AllReadyH.cons (o := { dst := some 45, op := Op.call { callee := Callee.builtin Builtin.append, args := #[Operand.tmp 42, Operand.tmp 44], argTypes := #[27, 27] }, type := 27, pos := "law.go:109", after := #[{ on := 2, ground := Ground.data }, { on := 4, ground := Ground.data }], guard := none }) rfl (fun K hK => ?_) AllReadyH.nil
                rw [if_pos (by rfl)]
                refine wp_app (.tmp 42) (.tmp 44) 27 rfl wb.heap.size 5 j0 (.int .u8 0) 1 Try.underlying27 hj hk0 hk1 hk2 rfl _ 0 (bv []) rfl OE707_719.out.own wb.heap.size yA ym yc (bv yl) rfl (HROW.out.below (hH719)) (bv_one _) (by unfold maxLen; omega) (by omega) ((hH719).size) ?_
                intro v720 wn720 hown720 hg720 hat720
                rw [Nat.zero_add, ← bv_append, List.nil_append] at hown720
                obtain ⟨A720, c720, rfl, _⟩ := own_slice hown720
                have O5720 : Hid (OwnB wb.heap.size (.slice A720 ym c720) ym yl wn720) := Lib.hid ⟨hown720⟩
                have BXk720 := Lib.hid ((hg720.block wn707.heap.size LX719.out (fun e => own_ne OE707_719.out.own BX719.out e.symm)).trans BX719.out)
                have LXk720 := Lib.hid (Nat.lt_of_lt_of_le LX719.out hg720.size)
                have hS720 : Below (wb.heap.size) wb wn720 := (below_app (hH719) ((hH719).size) OE707_719.out.own (Nat.le_refl _) hg720)
                refine hK.out _ _ hS720 (fun hH720 => ?_)
                have hH720 : Below (wb.heap.size) wb wn720 := hH720
                clear hK K hS720
                try simp only [Act.put, List.setIfInBounds_toArray, List.set_cons_zero, List.set_cons_succ]
                refine wpAnyH_ready (rs := [7]) (by kernel_rfl) (by simp) ?_
                refine AllReadyH.cons (o := { dst := some 47, op := Op.call { callee := Callee.builtin Builtin.append, args := #[Operand.tmp 45, Operand.tmp 46], argTypes := #[27, 3] }, type := 27, pos := "law.go:109", after := #[{ on := 5, ground := Ground.data }, { on := 6, ground := Ground.data }, { on := 5, ground := Ground.chain }], guard := none }) rfl (fun K hK => ?_) AllReadyH.nil
                rw [if_pos (by rfl)]
                refine wp_appZ (.tmp 45) (.tmp 46) 27 3 rfl wb.heap.size 5 j0 Try.underlying27 Try.underlying3 hj hk0 hk1 hk2 _ ym yl rfl O5720.out.own size rfl (by omega) (by omega) ((hH720).size) ?_
                intro v721 wn721 hown721 hg721
                obtain ⟨A721, cd, rfl, _⟩ := own_slice hown721
                obtain ⟨gd, cq721, hv721, hgd721, hlt721⟩ := hown721.form (by omega)
                injection hv721 with e1721 e2721 e3721
                subst e1721 e3721
                have hcd721 := own_cap hown721
                have i1721 : (size : Int) ≤ cd := by omega
                have O7721 : Hid (OwnB wb.heap.size (.slice (some ⟨gd, 0, none⟩) (ym + size) cd) (ym + size) (yl ++ List.replicate size 0) wn721) := Lib.hid ⟨hown721⟩
                have BXk721 := Lib.hid ((hg721.block wn707.heap.size LXk720.out (fun e => own_ne O5720.out.own BXk720.out e.symm)).trans BXk720.out)
                have LXk721 := Lib.hid (Nat.lt_of_lt_of_le LXk720.out hg721.size)
                have hS721 : Below (wb.heap.size) wb wn721 := (below_app (hH720) ((hH720).size) O5720.out.own (Nat.le_refl _) hg721)
                refine hK.out _ _ hS721 (fun hH721 => ?_)
                have hH721 : Below (wb.heap.size) wb wn721 := hH721
                clear hK K hS721
                try simp only [Act.put, List.setIfInBounds_toArray, List.set_cons_zero, List.set_cons_succ]
                refine wpAnyH_take (i := 9) (oi := { dst := some 49, op := Op.slice 27 (Operand.tmp 47) none (some (Operand.tmp 48)) none, type := 27, pos := "law.go:109", after := #[{ on := 7, ground := Ground.data }, { on := 8, ground := Ground.data }], guard := none }) (v := ?tkv722) rfl (by kernel_rfl) (by kernel_rfl) (by kernel_rfl) (fun _ _ _ h => h) (Or.inl ⟨by rfl, ?tky722⟩) hH721 ?tkr722
                case tky722 => (intro w' hSw; have z0 := HCB.out _ hSw; clear hSw; go_simp; try with_reducible rfl)
                try simp only [Act.put, List.setIfInBounds_toArray, List.set_cons_zero, List.set_cons_succ]
                refine wpAnyH_take (i := 10) (oi := { dst := some 50, op := Op.build 73 #[(0, Operand.tmp 41), (1, Operand.tmp 49)], type := 73, pos := "law.go:109", after := #[{ on := 1, ground := Ground.data }, { on := 9, ground := Ground.data }], guard := none }) (v := ?tkv723) rfl (by kernel_rfl) (by kernel_rfl) (by kernel_rfl) (fun _ _ _ h => h) (Or.inl ⟨by rfl, ?tky723⟩) hH721 ?tkr723
                case tky723 => (intro w' hSw; clear hSw; go_simp; try with_reducible rfl)
                try simp only [Act.put, List.setIfInBounds_toArray, List.set_cons_zero, List.set_cons_succ]
                refine wpAnyH_ready (rs := [12]) (by kernel_rfl) (by simp) ?_
                refine AllReadyH.cons (o := { dst := none, op := Op.store 73 (Operand.tmp 11) (Operand.tmp 50), type := 0, pos := "law.go:109", after := #[{ on := 11, ground := Ground.data }, { on := 10, ground := Ground.data }, { on := 7, ground := Ground.chain }, { on := 0, ground := Ground.phase }, { on := 1, ground := Ground.phase }, { on := 2, ground := Ground.phase }, { on := 3, ground := Ground.phase }, { on := 4, ground := Ground.phase }, { on := 5, ground := Ground.phase }, { on := 6, ground := Ground.phase }, { on := 7, ground := Ground.phase }, { on := 8, ground := Ground.phase }, { on := 9, ground := Ground.phase }, { on := 10, ground := Ground.phase }, { on := 11, ground := Ground.phase }], guard := none }) rfl (fun K hK => ?_) AllReadyH.nil
                rw [if_pos (by rfl)]
                refine wp_store_row _ _ _ rfl wn707.heap.size #[.int .u32 (yn : Int), .slice (some ⟨gd, 0, none⟩) size cd] rfl rfl _ _ BXk721.out (by kernel_rfl) rfl (by simp [Value.oneCell']) ?_
                have RBX := Lib.hid (rbx_of BXk721.out O7721.out.own (hH721) GE719.out (by omega) HDD.out (yn := yn))
                have hS724 : Below (wb.heap.size) wb (wn721.setRow wn707.heap.size #[.int .u32 (yn : Int), .slice (some ⟨gd, 0, none⟩) size cd]) := (below_setRowW (hH721) GE719.out _)
                refine hK.out _ _ hS724 (fun hH724 => ?_)
                have hH724 : Below (wb.heap.size) wb (wn721.setRow wn707.heap.size #[.int .u32 (yn : Int), .slice (some ⟨gd, 0, none⟩) size cd]) := hH724
                clear hK K hS724
                refine wpAnyH_done (by kernel_rfl) ?_ _
                refine NoPanic.normal ?_
                go_wp2_with fail
                go_meet
                exact ⟨wn707.heap.size, gd, cd, rfl, RBX⟩
            · go_simp
              have hb725 : Below wd700.heap.size wd700 (wd700.alloc (.cells #[.int .u32 0, .slice none 0 0] 73)) := (Below.refl _ _).alloc (Nat.le_refl _) _
              have BX725 : Hid ((wd700.alloc (.cells #[.int .u32 0, .slice none 0 0] 73)).heap[wd700.heap.size]? = some (.cells #[.int .u32 0, .slice none 0 0] 73 (0, 0))) := Lib.hid (heap_alloc_new _ _)
              have LX725 : Hid (wd700.heap.size < (wd700.alloc (.cells #[.int .u32 0, .slice none 0 0] 73)).heap.size) := Lib.hid (by simp)
              have GE725 : Hid (wb.heap.size ≤ wd700.heap.size) := Lib.hid ((hH0).size)
              generalize (wd700.alloc (.cells #[.int .u32 0, .slice none 0 0] 73)) = wn725 at *
              have hS725 : Below (wb.heap.size) wb wn725 := (hH0).trans (hb725.mono (hH0).size)
              refine hK.out _ _ hS725 (fun hH725 => ?_)
              have hH725 : Below (wb.heap.size) wb wn725 := hH725
              clear hK K hS725
              try simp only [Act.put, List.setIfInBounds_toArray, List.set_cons_zero, List.set_cons_succ]
              refine wpAnyH_ready (rs := [2]) (by kernel_rfl) (by simp) ?_
              refine AllReadyH.cons (o := { dst := some 42, op := Op.buildSlice 27 0 #[], type := 27, pos := "law.go:109", after := #[], guard := none }) rfl (fun K hK => ?_) AllReadyH.nil
              go_simp
              have hb726 : Below wn725.heap.size wn725 (wn725.alloc (.cells #[] 5)) := (Below.refl _ _).alloc (Nat.le_refl _) _
              have OE726 : Hid (OwnB wb.heap.size (.slice (some ⟨wn725.heap.size, 0, none⟩) 0 0) 0 [] (wn725.alloc (.cells #[] 5))) := Lib.hid ⟨own_lit (cs := #[]) rfl ((hH725).size) rfl (by unfold maxLen; omega)⟩
              generalize (wn725.alloc (.cells #[] 5)) = wn726 at *
              have BX725_726 := Lib.hid ((hb726.block wd700.heap.size LX725.out).trans BX725.out)
              have LX725_726 := Lib.hid (Nat.lt_of_lt_of_le LX725.out hb726.size)
              have hS726 : Below (wb.heap.size) wb wn726 := (hH725).trans (hb726.mono (hH725).size)
              refine hK.out _ _ hS726 (fun hH726 => ?_)
              have hH726 : Below (wb.heap.size) wb wn726 := hH726
              clear hK K hS726
              try simp only [Act.put, List.setIfInBounds_toArray, List.set_cons_zero, List.set_cons_succ]
              refine wpAnyH_ready (rs := [5]) (by kernel_rfl) (by simp) ?_
              refine AllReadyH.cons (o := { dst := some 45, op := Op.call { callee := Callee.builtin Builtin.append, args := #[Operand.tmp 42, Operand.tmp 44], argTypes := #[27, 27] }, type := 27, pos := "law.go:109", after := #[{ on := 2, ground := Ground.data }, { on := 4, ground := Ground.data }], guard := none }) rfl (fun K hK => ?_) AllReadyH.nil
              rw [if_pos (by rfl)]
              refine wp_app (.tmp 42) (.tmp 44) 27 rfl wb.heap.size 5 j0 (.int .u8 0) 1 Try.underlying27 hj hk0 hk1 hk2 rfl _ 0 (bv []) rfl OE726.out.own wb.heap.size yA ym yc (bv yl) rfl (HROW.out.below (hH726)) (bv_one _) (by unfold maxLen; omega) (by omega) ((hH726).size) ?_
              intro v727 wn727 hown727 hg727 hat727
              rw [Nat.zero_add, ← bv_append, List.nil_append] at hown727
              obtain ⟨A727, c727, rfl, _⟩ := own_slice hown727
              have O5727 : Hid (OwnB wb.heap.size (.slice A727 ym c727) ym yl wn727) := Lib.hid ⟨hown727⟩
              have BXk727 := Lib.hid ((hg727.block wd700.heap.size LX725_726.out (fun e => own_ne OE726.out.own BX725_726.out e.symm)).trans BX725_726.out)
              have LXk727 := Lib.hid (Nat.lt_of_lt_of_le LX725_726.out hg727.size)
              have hS727 : Below (wb.heap.size) wb wn727 := (below_app (hH726) ((hH726).size) OE726.out.own (Nat.le_refl _) hg727)
              refine hK.out _ _ hS727 (fun hH727 => ?_)
              have hH727 : Below (wb.heap.size) wb wn727 := hH727
              clear hK K hS727
              try simp only [Act.put, List.setIfInBounds_toArray, List.set_cons_zero, List.set_cons_succ]
              refine wpAnyH_ready (rs := [7]) (by kernel_rfl) (by simp) ?_
              refine AllReadyH.cons (o := { dst := some 47, op := Op.call { callee := Callee.builtin Builtin.append, args := #[Operand.tmp 45, Operand.tmp 46], argTypes := #[27, 3] }, type := 27, pos := "law.go:109", after := #[{ on := 5, ground := Ground.data }, { on := 6, ground := Ground.data }, { on := 5, ground := Ground.chain }], guard := none }) rfl (fun K hK => ?_) AllReadyH.nil
              rw [if_pos (by rfl)]
              refine wp_appZ (.tmp 45) (.tmp 46) 27 3 rfl wb.heap.size 5 j0 Try.underlying27 Try.underlying3 hj hk0 hk1 hk2 _ ym yl rfl O5727.out.own size rfl (by omega) (by omega) ((hH727).size) ?_
              intro v728 wn728 hown728 hg728
              obtain ⟨A728, cd, rfl, _⟩ := own_slice hown728
              obtain ⟨gd, cq728, hv728, hgd728, hlt728⟩ := hown728.form (by omega)
              injection hv728 with e1728 e2728 e3728
              subst e1728 e3728
              have hcd728 := own_cap hown728
              have i1728 : (size : Int) ≤ cd := by omega
              have O7728 : Hid (OwnB wb.heap.size (.slice (some ⟨gd, 0, none⟩) (ym + size) cd) (ym + size) (yl ++ List.replicate size 0) wn728) := Lib.hid ⟨hown728⟩
              have BXk728 := Lib.hid ((hg728.block wd700.heap.size LXk727.out (fun e => own_ne O5727.out.own BXk727.out e.symm)).trans BXk727.out)
              have LXk728 := Lib.hid (Nat.lt_of_lt_of_le LXk727.out hg728.size)
              have hS728 : Below (wb.heap.size) wb wn728 := (below_app (hH727) ((hH727).size) O5727.out.own (Nat.le_refl _) hg728)
              refine hK.out _ _ hS728 (fun hH728 => ?_)
              have hH728 : Below (wb.heap.size) wb wn728 := hH728
              clear hK K hS728
              try simp only [Act.put, List.setIfInBounds_toArray, List.set_cons_zero, List.set_cons_succ]
              refine wpAnyH_take (i := 9) (oi := { dst := some 49, op := Op.slice 27 (Operand.tmp 47) none (some (Operand.tmp 48)) none, type := 27, pos := "law.go:109", after := #[{ on := 7, ground := Ground.data }, { on := 8, ground := Ground.data }], guard := none }) (v := ?tkv729) rfl (by kernel_rfl) (by kernel_rfl) (by kernel_rfl) (fun _ _ _ h => h) (Or.inl ⟨by rfl, ?tky729⟩) hH728 ?tkr729
              case tky729 => (intro w' hSw; have z0 := HCB.out _ hSw; clear hSw; go_simp; try with_reducible rfl)
              try simp only [Act.put, List.setIfInBounds_toArray, List.set_cons_zero, List.set_cons_succ]
              refine wpAnyH_take (i := 10) (oi := { dst := some 50, op := Op.build 73 #[(0, Operand.tmp 41), (1, Operand.tmp 49)], type := 73, pos := "law.go:109", after := #[{ on := 1, ground := Ground.data }, { on := 9, ground := Ground.data }], guard := none }) (v := ?tkv730) rfl (by kernel_rfl) (by kernel_rfl) (by kernel_rfl) (fun _ _ _ h => h) (Or.inl ⟨by rfl, ?tky730⟩) hH728 ?tkr730
              case tky730 => (intro w' hSw; clear hSw; go_simp; try with_reducible rfl)
              try simp only [Act.put, List.setIfInBounds_toArray, List.set_cons_zero, List.set_cons_succ]
              refine wpAnyH_ready (rs := [12]) (by kernel_rfl) (by simp) ?_
              refine AllReadyH.cons (o := { dst := none, op := Op.store 73 (Operand.tmp 11) (Operand.tmp 50), type := 0, pos := "law.go:109", after := #[{ on := 11, ground := Ground.data }, { on := 10, ground := Ground.data }, { on := 7, ground := Ground.chain }, { on := 0, ground := Ground.phase }, { on := 1, ground := Ground.phase }, { on := 2, ground := Ground.phase }, { on := 3, ground := Ground.phase }, { on := 4, ground := Ground.phase }, { on := 5, ground := Ground.phase }, { on := 6, ground := Ground.phase }, { on := 7, ground := Ground.phase }, { on := 8, ground := Ground.phase }, { on := 9, ground := Ground.phase }, { on := 10, ground := Ground.phase }, { on := 11, ground := Ground.phase }], guard := none }) rfl (fun K hK => ?_) AllReadyH.nil
              rw [if_pos (by rfl)]
              refine wp_store_row _ _ _ rfl wd700.heap.size #[.int .u32 (yn : Int), .slice (some ⟨gd, 0, none⟩) size cd] rfl rfl _ _ BXk728.out (by kernel_rfl) rfl (by simp [Value.oneCell']) ?_
              have RBX := Lib.hid (rbx_of BXk728.out O7728.out.own (hH728) GE725.out (by omega) HDD.out (yn := yn))
              have hS731 : Below (wb.heap.size) wb (wn728.setRow wd700.heap.size #[.int .u32 (yn : Int), .slice (some ⟨gd, 0, none⟩) size cd]) := (below_setRowW (hH728) GE725.out _)
              refine hK.out _ _ hS731 (fun hH731 => ?_)
              have hH731 : Below (wb.heap.size) wb (wn728.setRow wd700.heap.size #[.int .u32 (yn : Int), .slice (some ⟨gd, 0, none⟩) size cd]) := hH731
              clear hK K hS731
              refine wpAnyH_done (by kernel_rfl) ?_ _
              refine NoPanic.normal ?_
              go_wp2_with fail
              go_meet
              exact ⟨wd700.heap.size, gd, cd, rfl, RBX⟩
        case rest =>
          obtain ⟨gr, gd, cd, rfl, hrb⟩ := hcut
          have HKC := Lib.hid (HKI.out.below hrb.out.b)
          have HSC := Lib.hid (RBx.sd HKI.out hrb.out)
          have hcx := (hrb.out.b.block gc HGCL.out).trans HCX.out
          have d0 : wc.cell? ⟨gc, 0, none⟩ = some (.int .i64 yd) := by rw [cell_of_row wc gc 0 _ _ (0, 0) hcx]; rfl
          have d1 : wc.cell? ⟨gc, 1, none⟩ = some (.int .i64 yN) := by rw [cell_of_row wc gc 1 _ _ (0, 0) hcx]; rfl
          have d2 : wc.cell? ⟨gc, 2, none⟩ = some (.int .i64 yT) := by rw [cell_of_row wc gc 2 _ _ (0, 0) hcx]; rfl
          clear hcx hrb HKI HCX HCB HROW HDD HGCL
          go_upto_if 53 with fail
          go_cut [] (fun wx => ∃ f' : Fl, Hid (KI w gw gf size f' k P Pw Aw nw cw ew wx) ∧ Hid (SD w gf size yn d gr gd cd P Pw Aw nw cw ew wx))
          case first =>
            by_cases hyd : yd = 0
            · subst hyd
              obtain ⟨pn, hpn, hpp⟩ := pick_in yN 60 (by omega) (by omega)
              have HPP := Lib.hid hpp
              have HFU := Lib.hid (fuse_any gf (pn : Int) yT f wc HKC.out.wo.fl)
              clear hpp
              go_wp2_with (rw [HPP.out])
              refine HFU.out.mono ?_
              rintro e wf ⟨rfl, hdn⟩
              have HKF := Lib.hid (HKC.out.fused (decide (0 ≤ (pn : Int))) pn yT (by omega) hdn.out)
              have HSF := Lib.hid (HSC.out.done hdn.out.2)
              clear HFU hdn
              go_wp2_with fail
              go_meet
              exact ⟨_, HKF, HSF⟩
            · go_wp2_with fail
              go_meet
              exact ⟨f, HKC, HSC⟩
          case rest =>
            obtain ⟨fx, hkx, hsx⟩ := hcut
            clear HKC HSC d0 d1 d2 f
            obtain ⟨wx, rfl⟩ : ∃ wx : World, wx = wc := ⟨_, rfl⟩
            have r0 : wx.cell? ⟨gr, 0, none⟩ = some (.int .u32 (yn : Int)) := by rw [cell_of_row wx gr 0 _ _ (0, 0) hsx.out.box]; rfl
            have r1 : wx.cell? ⟨gr, 1, none⟩ = some (.slice (some ⟨gd, 0, none⟩) size cd) := by rw [cell_of_row wx gr 1 _ _ (0, 0) hsx.out.box]; rfl
            have HADD := Lib.hid (add_k w gw gf size yn d gr gd cd fx k P Pw Aw nw cw ew wx hkx.out hsx.out hs1 hs2 (by omega) HDL.out hyidv)
            have HEQ := Lib.hid hkx.out.eq
            clear hkx hsx
            go_wp2_with fail
            refine HADD.out.mono ?_
            rintro e wa (⟨rfl, hki2, hroom⟩ | ⟨f2, rfl, hwo2, hkn, hL, hsd⟩ | ⟨hx, f2, rfl, hwo2, hkn, hL, hsd⟩)
            · -- it is full
              have HRO := Lib.hid (wroom_any hki2.out.wo.wh (opW_ok fx 5 size (by omega) hs1 hs2))
              rw [hroom.out] at HRO
              clear HADD hroom r0 r1
              go_wp2_with fail
              refine HRO.out.mono ?_
              rintro e w7 ⟨rfl, q7, rfl⟩
              have HK7 := Lib.hid (hki2.out.below (drewN_below wa q7))
              clear HRO hki2
              go_wp2_with fail
              go_roundw
              case rel => exact ⟨k + 1, gw, _, fx, _, Pw, Aw, nw, cw, ew, by omega, by go_num, rfl, rfl, rfl, HK7⟩
              case measure => simp [intOf]; omega
            · -- it was added
              have HSD := hsd
              clear hsd HADD r0 r1
              have hzl : nw ≤ 1000 := by
                rw [← HSD.out.want.2.2.1, ← List.length_map (f := RRow.pair), HEQ.out]
                exact (opW_L_len fx 5 size hs1 hs2).2
              go_wp2_with (first
                | (at_builtin; refine wpList_app2 rfl (.tmp 71) (.tmp 73) 66 rfl 0 73 i0 _ 32 Try.underlying66 hi hz0 hz1 hz2 rfl _ nw _ rfl (HSD.out.below ((Below.refl _ _).alloc (Nat.le_refl _) _)).want.1 _ 1 _ _ 73 rfl (heap_alloc_new _ _) rfl rfl (by unfold maxLen; omega) (by omega) (Nat.zero_le _) ?_; intro v4 w4 hown4 hg4 hat4; obtain ⟨A4, c4, rfl⟩ := own2_form hown4)
                | ((with_reducible show wpList _ _ _ _ _ _); refine wpList_load_row (o := ⟨some 72, _, _, _, _, _⟩) rfl _ (.tmp 11) rfl gr rfl _ _ _ _ HSD.out.box Try.underlying73 rfl (by kernel_rfl) ?_))
              obtain ⟨Pw', hrec, hpw, hwoe⟩ := SD.more (HSD.out.below ((Below.refl _ _).alloc (Nat.le_refl _) _)) (hwo2.out.below ((Below.refl _ _).alloc (Nat.le_refl _) _)) hown4 hg4 hat4
              have HK4 := Lib.hid (KI.next hwoe hkn.out hrec (by rw [List.map_append, HEQ.out, hL.out]; rfl) hpw)
              clear hown4 hg4 hat4 hrec hpw hwoe hwo2 hkn hL HEQ HSD
              go_roundw
              case rel => exact ⟨k + 1, gw, _, f2, _, Pw', A4, nw + 1, c4, _, by omega, by go_num, rfl, rfl, rfl, HK4⟩
              case measure => simp [intOf]; omega
            · -- the power went
              have HSD := hsd
              clear hsd HADD r0 r1
              have HST := Lib.hid (start_w hwo2.out)
              go_wp2_with fail
              refine HST.out.mono ?_
              rintro e w3 ⟨rfl, hfl, hgr3⟩
              obtain ⟨f3, hf3⟩ : ∃ f3 : Fl, f3 = { f2 with down := false } := ⟨_, rfl⟩
              have e3 : opW f3 5 size 8 = opW f2 5 size 8 := opW_bs (by rw [hf3]) 5 size 8
              rw [← hf3] at hfl
              have HSD3 := Lib.hid (HSD.out.done hgr3.out)
              have HKN : Hid (KN f3 (k + 1)) := ⟨by rw [hf3], by rw [hf3]; exact hkn.out.1, by rw [hf3]; exact hkn.out.2⟩
              rw [← e3] at hL
              have HO1 := Lib.hid (open_wo w gf 5 size (size : Int) rfl f3 _ w3 hfl.out.1 hfl.out.2.1 HKN.out.down hs1 hs2 hfl.out.2.2 hwo2.out.base)
              have HGB := Lib.hid hwo2.out.base
              clear HST hgr3 HSD hf3 e3 hfl hwo2 hkn
              go_wp2_with fail
              refine HO1.out.mono ?_
              rintro e w4 ⟨g1, rfl, hw4, hb4⟩
              have HSD4 := Lib.hid (HSD3.out.opened hb4.out)
              have HO2 := Lib.hid (open_wo w gf 5 size (size : Int) rfl f3 _ w4 hw4.out.fl hw4.out.ok HKN.out.down hs1 hs2 hw4.out.b HGB.out)
              clear HO1 hb4 HSD3
              go_wp2_with fail
              refine HO2.out.mono ?_
              rintro e w5 ⟨g2, rfl, hw5, hb5⟩
              have HW5 := Lib.hid (hw4.out.below hb5.out)
              have HSD5 := Lib.hid (HSD4.out.below hb5.out)
              have HX5 := hw5
              clear HO2 hb5 HSD4 hw4 hw5
              have HR1 := Lib.hid (recs_k HW5.out hs1 hs2)
              go_wp2_with fail
              refine HR1.out.mono ?_
              rintro e w6 ⟨A6, n6, c6, es6, rfl, hr6, hm6, hb6⟩
              have HR2 := Lib.hid (recs_k (HX5.out.below hb6.out) hs1 hs2)
              have HLL := Lib.hid (opW_L_len f3 5 size hs1 hs2)
              clear HR1
              go_wp2_with fail
              refine HR2.out.mono ?_
              rintro e w7 ⟨A7, n7, c7, es7, rfl, hr7, hm7, hb7⟩
              have hn67 : n6 = n7 := by rw [← hr6.out.2.2.1, ← hr7.out.2.2.1, ← List.length_map (f := RRow.pair), hm6.out, ← hm7.out, List.length_map]
              have hn6l : n6 ≤ 1000 := by rw [← hr6.out.2.2.1, ← List.length_map (f := RRow.pair), hm6.out]; exact HLL.out.2
              subst hn67
              have HSM := Lib.hid (wsame_yes _ _ n6 c6 c7 A6 A7 es6 es7 w7 (hr6.out.below hb7.out) hr7.out (hm6.out.trans hm7.out.symm) (by omega))
              have HB7 := Lib.hid (hb6.out.trans (hb7.out.mono hb6.out.size))
              clear hr6 hm6 hb6 hr7 hm7 hb7 HR2
              go_wp2_with fail
              refine HSM.out.mono ?_
              rintro e w8 ⟨rfl, hb8⟩
              have HB8 := Lib.hid (HB7.out.trans (hb8.out.mono HB7.out.size))
              have HOK3 := Lib.hid (opW_ok f3 5 size (by omega) hs1 hs2)
              have HRO := Lib.hid (wroom_any (HW5.out.below HB8.out).wh HOK3.out)
              clear HSM HB7 hb8
              go_wp2_with fail
              refine HRO.out.mono ?_
              rintro e w9 ⟨rfl, q9, rfl⟩
              have HB9 := Lib.hid (HB8.out.trans ((drewN_below w8 q9).mono HB8.out.size))
              have HRP := Lib.hid (wroom_any (HX5.out.below HB9.out).wh HOK3.out)
              have hrr : (((opW f3 5 size 8).room : Int) != ((opW f3 5 size 8).room : Int)) = false := bne_self_eq_false _
              clear HRO
              go_wp2_with fail
              refine HRP.out.mono ?_
              rintro e w10 ⟨rfl, q10, rfl⟩
              have HB10 := Lib.hid (HB8.out.trans ((drewN_below w8 (q9 + q10)).mono HB8.out.size))
              have HR3 := Lib.hid (recs_k (HW5.out.below HB10.out) hs1 hs2)
              clear HRP HB8 HB9 HX5 HOK3
              go_wp2_with fail
              refine HR3.out.mono ?_
              rintro e w11 ⟨A11, n11, c11, es11, rfl, hr11, hm11, hb11⟩
              have hn11 : n11 = (opW f3 5 size 8).L.length := by rw [← hr11.out.2.2.1, ← List.length_map (f := RRow.pair), hm11.out]
              have hnw : nw = (opW fx 5 size 8).L.length := by rw [← HSD5.out.want.2.2.1, ← List.length_map (f := RRow.pair), HEQ.out]
              have hnl2 := HLL.out.2
              have HB11 := Lib.hid (HB10.out.trans (hb11.out.mono HB10.out.size))
              have HW11 := Lib.hid (HW5.out.below HB11.out)
              have HSD := Lib.hid (HSD5.out.below HB11.out)
              clear HR3 HB10 hr11 hm11 hb11 hrr HW5 HSD5 HB11 HLL
              rcases hL.out with hL2 | hL2
              · have hne : ¬ (n11 : Int) = (nw : Int) + 1 := by rw [hn11, hL2, ← hnw]; omega
                have HR4 := Lib.hid (recs_k HW11.out hs1 hs2)
                have hneq : ((n11 : Int) == (nw : Int) + 1) = false := beq_eq_false_iff_ne.2 hne
                have hnw1 : (nw : Int) ≤ 1000 := by rw [hL2, ← hnw] at hnl2; omega
                have HNW := Lib.hid hnw
                have HL2 := Lib.hid hL2
                clear hn11 hnw hnl2 hL2
                go_wp2_with fail
                refine HR4.out.mono ?_
                rintro e w12 ⟨A12, n12, c12, es12, rfl, hr12, hm12, hb12⟩
                have hn12 : n12 = nw := by rw [← hr12.out.2.2.1, ← List.length_map (f := RRow.pair), hm12.out, HL2.out, HNW.out]
                subst hn12
                clear HNW
                have HSM := Lib.hid (wsame_yes _ _ n12 c12 cw A12 Aw es12 ew w12 hr12.out (HSD.out.want.below hb12.out) (hm12.out.trans (HL2.out.trans HEQ.out.symm)) (by omega))
                have HW12 := Lib.hid (HW11.out.below hb12.out)
                have HSD12 := Lib.hid (HSD.out.below hb12.out)
                clear HR4 hr12 hm12 hb12 HW11 HSD
                go_wp2_with fail
                refine HSM.out.mono ?_
                rintro e w13 ⟨rfl, hb13⟩
                have HSD13 := Lib.hid (HSD12.out.below hb13.out)
                have HK := Lib.hid (KI.next (HW12.out.below hb13.out) HKN.out HSD13.out.want (HEQ.out.trans HL2.out.symm) (fun b hb => HSD13.out.q b (.inl hb)))
                clear HSM HW12 HSD12 HSD13 hb13
                go_wp2_with fail
                go_roundw
                case rel => exact ⟨k + 1, g1, _, f3, _, Pw, Aw, n12, cw, ew, by omega, by go_num, rfl, rfl, rfl, HK⟩
                case measure => simp [intOf]; omega
              · have hne : (n11 : Int) = (nw : Int) + 1 := by rw [hn11, hL2, List.length_append, ← hnw]; rfl
                have hnw1 : nw ≤ 1000 := by rw [hL2, List.length_append, ← hnw] at hnl2; omega
                have HL2 := Lib.hid hL2
                clear hn11 hnw hnl2 hL2
                go_wp2_with (first
                  | (at_builtin; refine wpList_app2 rfl (.tmp 127) (.tmp 129) 66 rfl 0 73 i0 _ 32 Try.underlying66 hi hz0 hz1 hz2 rfl _ nw _ rfl (HSD.out.below ((Below.refl _ _).alloc (Nat.le_refl _) _)).want.1 _ 1 _ _ 73 rfl (heap_alloc_new _ _) rfl rfl (by unfold maxLen; omega) (by omega) (Nat.zero_le _) ?_; intro v12 w12 hown12 hg12 hat12; obtain ⟨A12, c12, rfl⟩ := own2_form hown12)
                  | ((with_reducible show wpList _ _ _ _ _ _); refine wpList_load_row (o := ⟨some 128, _, _, _, _, _⟩) rfl _ (.tmp 11) rfl gr rfl _ _ _ _ HSD.out.box Try.underlying73 rfl (by kernel_rfl) ?_))
                obtain ⟨Pw', hrec, hpw, hwoe⟩ := SD.more (HSD.out.below ((Below.refl _ _).alloc (Nat.le_refl _) _)) (HW11.out.below ((Below.refl _ _).alloc (Nat.le_refl _) _)) hown12 hg12 hat12
                have HK12 := Lib.hid (KI.next hwoe HKN.out hrec (by rw [List.map_append, HEQ.out, HL2.out]; rfl) hpw)
                have HR4 := Lib.hid (recs_k hwoe hs1 hs2)
                have hnw2 : nw + 1 ≤ 1000000 := by omega
                clear hown12 hg12 hat12 hrec hpw hwoe HL2 HEQ HSD HW11 HKN
                go_wp2_with fail
                refine HR4.out.mono ?_
                rintro e w13 ⟨A13, n13, c13, es13, rfl, hr13, hm13, hb13⟩
                have HK13 := Lib.hid (HK12.out.below hb13.out)
                have hn13 : n13 = nw + 1 := by
                  have hx := HK12.out.want.2.2.1
                  have hy := HK12.out.eq
                  rw [← hr13.out.2.2.1, ← List.length_map (f := RRow.pair), hm13.out, ← hy, List.length_map]
                  exact hx
                subst hn13
                have HSM := Lib.hid (wsame_yes _ _ (nw + 1) c13 c12 A13 A12 es13 _ w13 hr13.out HK13.out.want (hm13.out.trans HK13.out.eq.symm) hnw2)
                clear HR4 HK12 hr13 hm13 hb13
                go_wp2_with fail
                refine HSM.out.mono ?_
                rintro e w14 ⟨rfl, hb14⟩
                have HK14 := Lib.hid (HK13.out.below hb14.out)
                clear HSM HK13 hb14
                go_wp2_with fail
                go_roundw
                case rel => exact ⟨k + 1, g1, _, f3, _, Pw', A12, nw + 1, c12, _, by omega, by go_num, rfl, rfl, rfl, HK14⟩
                case measure => simp [intOf]; omega
      · obtain rfl : k = n := by omega
        have HRC := Lib.hid (recs_k hki.out.wo hs1 hs2)
        have HLL := Lib.hid (opW_L_len f 5 size hs1 hs2)
        clear hlt
        go_wp2_with fail
        refine HRC.out.mono ?_
        rintro e w7 ⟨A7, n7, c7, es7, rfl, hr7, hm7, hb7⟩
        have HK7 := Lib.hid (hki.out.below hb7.out)
        have hn7 : n7 = nw := by rw [← hr7.out.2.2.1, ← HK7.out.want.2.2.1, ← List.length_map (f := RRow.pair), hm7.out, ← HK7.out.eq, List.length_map]
        have hn7l : n7 ≤ 1000000 := by
          have h1 := HLL.out.2
          rw [← hm7.out, List.length_map, hr7.out.2.2.1] at h1
          omega
        subst hn7
        have HSM := Lib.hid (wsame_yes _ _ n7 c7 cw A7 Aw es7 ew w7 hr7.out HK7.out.want (hm7.out.trans HK7.out.eq.symm) hn7l)
        clear HRC HLL hki hr7 hm7 hb7
        go_wp2_with fail
        refine HSM.out.mono ?_
        rintro e w8 ⟨rfl, hb8⟩
        have HB8 := Lib.hid (HK7.out.wo.b.trans (hb8.out.mono HK7.out.wo.b.size))
        clear HSM HK7 hb8
        go_wp2_with fail
        refine (awake18_any w8).mono ?_
        rintro e w9 ⟨rfl, hb9⟩
        go_wp2_with fail
        go_ret
        exact ⟨rfl, HB8.out.trans (hb9.out.mono HB8.out.size)⟩
end Go.Proofs.Ytmlmpjokmbgmcaa
