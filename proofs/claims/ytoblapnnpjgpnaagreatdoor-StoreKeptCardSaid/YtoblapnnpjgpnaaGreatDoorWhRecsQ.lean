/- Wheel: Records: by contract. The reference's SameRecords of equal records: by contract. -/
import Derived.Deep.RegionHeld3
import Derived.Test.YtoblapnnpjgpnaaGreatDoorWhAddQ
namespace Go.Proofs.YtoblapnnpjgpnaaGreatDoor
open Go.RowKit
/-- what holds while a record is copied, it lies in block gr -/
structure SQ (w : World) (gr : Nat) (cs : Array Value) (W : World) : Prop where
  b : Below w.heap.size w W
  box : W.heap[gr]? = some (.cells cs 70 (0, 0))
section
variable {w W W' : World} {gr : Nat} {v : Value} {cs : Array Value}
theorem SQ.lt (h : SQ w gr cs W) : gr < W.heap.size := (Array.getElem?_eq_some_iff.1 h.box).1
theorem SQ.lb (h : SQ w gr cs W) : Hid (Below w.heap.size w W) := h.b
theorem SQ.below (h : SQ w gr cs W) (hb : Below W.heap.size W W') : SQ w gr cs W' := ⟨h.b.trans (hb.mono h.b.size), (hb.block gr h.lt).trans h.box⟩
theorem SQ.app (h : SQ w gr cs W) (hg : W.grownBy W' v.ownBlock) (hv : ∀ g, v.ownBlock = some g → w.heap.size ≤ g) (hn : v.ownBlock ≠ some gr) : SQ w gr cs W' :=
  ⟨h.b.grown hg h.b.size hv, (hg.block gr h.lt (fun e => hn e.symm)).trans h.box⟩
end
/-- record k of a list -/
theorem RecW.at_ {Q : Nat → Prop} {W : World} {A : Option Addr} {n c k : Nat} {es : List RRow} (h : RecW Q W (.slice A n c) n es) (hk : k < n) :
    ∃ g, A = some ⟨g, 0, none⟩ ∧ ∃ hk2 : k < es.length, W.cell? ⟨g, k * 2, none⟩ = some (.int .u32 (es[k].id : Int)) ∧ W.cell? ⟨g, k * 2 + 1, none⟩ = some (.slice es[k].A es[k].n es[k].c) ∧ RcAt Q W (.slice A n c) es[k] := by
  have hl := h.2.2.1
  have hk2 : k < es.length := by omega
  rcases h.1.2 with ⟨hv, h0⟩ | ⟨g, cap, cur, hv, _, hg, _, _, _, ht⟩
  · omega
  · injection hv with e1 e2 e3
    subst e1 e3
    have hj : ∀ (es : List RRow) (k : Nat) (hk : k < es.length), (rcells es)[k * 2]? = some (.int .u32 (es[k].id : Int)) ∧ (rcells es)[k * 2 + 1]? = some (.slice es[k].A es[k].n es[k].c) := by
      intro es
      induction es with
      | nil => intro k hk; exact absurd hk (by simp)
      | cons r t ih =>
        intro k hk
        cases k with
        | zero => exact ⟨rfl, rfl⟩
        | succ k =>
          have e : rcells (r :: t) = .int .u32 (r.id : Int) :: .slice r.A r.n r.c :: rcells t := rfl
          rw [e, show (k + 1) * 2 = k * 2 + 1 + 1 by omega]
          exact ih k (by simpa using hk)
    have hlt : ∀ j u, (rcells es)[j]? = some u → W.cell? ⟨g, j, none⟩ = some u := by
      intro j u hu
      rw [cell_of_row W g j cur _ (0, 0) hg]
      rw [← ht] at hu
      have hl := (List.getElem?_eq_some_iff.1 hu).1
      rw [List.getElem?_take_of_lt (by simp at hl; omega)] at hu
      simpa using hu
    exact ⟨g, rfl, hk2, hlt _ _ (hj es k hk2).1, hlt _ _ (hj es k hk2).2, h.2.2.2 _ (List.getElem_mem hk2)⟩
def RecsOk (L : List (Nat × List UInt8)) (w : World) (e : Ending) (w' : World) : Prop :=
  ∃ A n c es, e = .returned (.slice A n c) ∧ Hid (RecW (fun b => w.heap.size ≤ b) w' (.slice A n c) n es) ∧ Hid (es.map RRow.pair = L) ∧ Hid (Below w.heap.size w w')
set_option maxRecDepth 100000 in
set_option maxHeartbeats 12800000 in
theorem recs_any (P : Nat → Prop) (gw gf : Nat) (h : Wh) (w : World) (hW : WhAt P gw gf h w) (hlen : ∀ p ∈ h.L, 1 ≤ p.2.length ∧ p.2.length ≤ 1000) (hm : h.L.length ≤ 1000) :
    Calls Tryz.prog 26 #[.pointer (some ⟨gw, 0, none⟩)] w (RecsOk h.L w) := by
  obtain ⟨i0, hi, hz0, hz1, hz2⟩ := info_parts Tryz.info70
  have HE := Lib.hid (wempty_no hW)
  have HLEN := Lib.hid hlen
  have HMM := Lib.hid hm
  obtain ⟨Aw, nw, cw, ew, hg, -, -, hrw0, hes0⟩ := hW
  have u3 := (wc6 hg).2.2.2.1
  have HR0 := Lib.hid hrw0
  have HES0 := Lib.hid hes0
  have hnw : nw = h.L.length := by rw [← hes0, ← hrw0.2.2.1]; simp
  have hnwi : (nw : Int) ≤ 1000 := by omega
  have HNW := Lib.hid hnw
  clear hg hrw0 hes0 hlen hm hnw
  go_enter Tryz.func26, Tryz.ntmps26
  go_wp2_with fail
  refine HE.out.mono ?_
  rintro e w' ⟨rfl, rfl⟩
  go_wp2_with fail
  go_loopw [3, 13] (fun s i wr => ∃ (k nv cv : Nat) (Av : Option Addr) (es : List RRow), k ≤ nw ∧ i = .int .i64 k ∧ s = .slice Av nv cv ∧ Hid (RecW (fun b => w.heap.size ≤ b) wr (.slice Av nv cv) nv es) ∧ Hid (es.map RRow.pair = h.L.take k) ∧ Hid (Below w.heap.size w wr) ∧ Hid (nv = k)) (fun _ i _ => nw - (intOf i).toNat)
  case atStart => exact ⟨0, 0, 0, none, [], by omega, rfl, rfl, RecW.nil _ _, rfl, Below.refl _ _, rfl⟩
  case round =>
    obtain ⟨k, nv, cv, Av, es, hk, rfl, rfl, hrec, hmp, hb, hnv⟩ := hrel
    by_cases hlt : k < nw
    · obtain ⟨ga, rfl, hk2, c0, c1, -⟩ := (HR0.out.below hb.out).at_ hlt
      obtain ⟨ga2, hga2, hk3, hcc0, hcc1, hrc⟩ := HR0.out.at_ hlt
      clear hga2 hcc0 hcc1
      have HNK := hnv
      have hki : (k : Int) < (nw : Int) := by omega
      have HPR : Hid (h.L[k]? = some ((ew[k].id, ew[k].d))) := by
        show _ = _
        rw [← HES0.out, List.getElem?_map, List.getElem?_eq_getElem hk2]; rfl
      have HKL : Hid (k < h.L.length) := by show _ < _; rw [← HNW.out]; exact hlt
      generalize ew[k] = rw0 at *
      obtain ⟨rid, rA, rn, rc0, d⟩ := rw0
      dsimp only at c0 c1 HPR
      have HPK : Hid (h.L[k]'(HKL.out) = (rid, d)) := by
        show _ = _
        have := HPR.out
        rw [List.getElem?_eq_getElem HKL.out] at this
        injection this
      have hmem : ((rid, d) : Nat × List UInt8) ∈ h.L := by rw [← HPK.out]; exact List.getElem_mem _
      have hdl := HLEN.out _ hmem
      dsimp only at hdl
      obtain ⟨rg0, ro0, hra, hq0, hl0, hn0, hrow0⟩ := hrc
      dsimp only at hra hrow0
      subst hra
      obtain rfl : rn = d.length := hrow0.blen.symm
      obtain ⟨sz, hsz⟩ : ∃ sz, d.length = sz := ⟨_, rfl⟩
      rw [hsz] at c1 hrow0 hdl
      have HDL : Hid (d.length = sz) := hsz
      have HRO := Lib.hid hrow0
      have hq0' := hb.out.size
      have HRG0 := Lib.hid hl0
      clear hsz hmem hrow0 hq0 hn0 hl0
      have hlen2 := HMM.out
      go_upto_region 7 with fail
      have hba : Below wr.heap.size wr (wr.alloc (.cells #[.int .u32 (rid : Int), .slice (some ⟨rg0, ro0, none⟩) sz rc0] 70)) := (Below.refl _ _).alloc (Nat.le_refl _) _
      have hbx := heap_alloc_new wr (.cells #[.int .u32 (rid : Int), .slice (some ⟨rg0, ro0, none⟩) sz rc0] 70)
      obtain ⟨wb, hwb⟩ : ∃ wb, wr.alloc (.cells #[.int .u32 (rid : Int), .slice (some ⟨rg0, ro0, none⟩) sz rc0] 70) = wb := ⟨_, rfl⟩
      rw [hwb] at hba hbx ⊢
      obtain ⟨gr, hgr⟩ : ∃ gr, wr.heap.size = gr := ⟨_, rfl⟩
      rw [hgr] at hbx ⊢
      obtain ⟨rk, hrk⟩ : ∃ rk : Array Value, rk = #[.int .u32 (rid : Int), .slice (some ⟨rg0, ro0, none⟩) sz rc0] := ⟨_, rfl⟩
      have SQB : Hid (SQ w gr rk wb) := ⟨hb.out.trans (hba.mono hq0'), by rw [hrk]; exact hbx⟩
      have HBX : Hid (∀ W : World, SQ w gr rk W → W.cell? ⟨gr, 0, none⟩ = some (.int .u32 (rid : Int)) ∧ W.cell? ⟨gr, 1, none⟩ = some (.slice (some ⟨rg0, ro0, none⟩) sz rc0)) := fun W hW => rc2 (by rw [← hrk]; exact hW.box)
      have HRW : Hid (RecW (fun b => w.heap.size ≤ b) wb (.slice Av nv cv) nv es) := hrec.out.below hba
      have hvl : ∀ g, (Value.slice Av nv cv).ownBlock = some g → g < wr.heap.size := fun g hg => (hrec.out.1.lt g hg).2
      have HVO : Hid (∀ g, (Value.slice Av nv cv).ownBlock = some g → w.heap.size ≤ g) := hrec.out.2.1
      have HNO : Hid ((Value.slice Av nv cv).ownBlock ≠ some gr) := fun e => by have := hvl gr e; omega
      have hsb := hba.size
      have HVL : Hid (∀ g, (Value.slice Av nv cv).ownBlock = some g → g < wb.heap.size) := fun g hg => Nat.lt_of_lt_of_le (hvl g hg) hsb
      obtain ⟨gw2, hgw2⟩ : ∃ gw2, gw2 = gr := ⟨_, rfl⟩
      have HGL : Hid (gr < wb.heap.size) := SQB.out.lt
      have HBL : Hid (w.heap.size ≤ wb.heap.size) := SQB.out.b.size
      have HM0 := Lib.hid hmp.out
      have HNV : Hid (nv ≤ 1000) := by show _ ≤ _; have := HNK.out; omega
      have HSB : Hid (wb.heap.size ≤ gr + 1) := by show _ ≤ _; rw [← hwb, ← hgr]; simp
      have HROW : Hid (∀ W : World, SQ w gr rk W → Row W W.heap.size (some ⟨rg0, ro0, none⟩) sz (bv d)) := fun W hW => (HRO.out.below hW.b).more hW.b.size
      have HCL : Hid (∀ W : World, SQ w gr rk W → Calls Tryz.prog 38 #[.slice (some ⟨rg0, ro0, none⟩) sz rc0] W (FreshBytes W.heap.size d W)) := fun W hS =>
        clone_any W.heap.size sz rc0 _ d W (HROW.out W hS) (by omega) (Nat.le_refl _)
      clear hnv hwb hgr hrk hba hbx hrec hmp hb hvl hgw2 hsb hlen2 hq0'
      refine wp_region_noPanic ?_
      refine wp_region_held_drew (S := (fun W => SQ w gr rk W)) (by kernel_rfl) (SQB.out.below (Below.refl _ _).drew) (fun hH0 => ?_)
      have hH0 : SQ w gr rk wb.drew := hH0
      have HRWd := Lib.hid (HRW.out.below ((Below.refl wb.heap.size wb).drew))
      generalize wb.drew = wd700 at *
      refine wpAnyH_take (i := 0) (oi := { dst := some 17, op := Op.move (Operand.tmp 3), type := 67, pos := "wheel.go:145", after := #[], guard := none }) (v := ?tkv701) rfl (by kernel_rfl) (by kernel_rfl) (by kernel_rfl) (fun _ _ _ h => h) (Or.inl ⟨by rfl, ?tky701⟩) hH0 ?tkr701
      case tky701 => (intro w' hSw; clear hSw; go_simp; try with_reducible rfl)
      try simp only [Act.put, List.setIfInBounds_toArray, List.set_cons_zero, List.set_cons_succ]
      refine wpAnyH_take (i := 1) (oi := { dst := some 18, op := Op.fieldAddr 70 (Operand.tmp 5) 0, type := 0, pos := "wheel.go:145", after := #[], guard := none }) (v := ?tkv702) rfl (by kernel_rfl) (by kernel_rfl) (by kernel_rfl) (fun _ _ _ h => h) (Or.inl ⟨by rfl, ?tky702⟩) hH0 ?tkr702
      case tky702 => (intro w' hSw; clear hSw; go_simp; try with_reducible rfl)
      try simp only [Act.put, List.setIfInBounds_toArray, List.set_cons_zero, List.set_cons_succ]
      refine wpAnyH_take (i := 2) (oi := { dst := some 19, op := Op.load 22 (Operand.tmp 18), type := 22, pos := "wheel.go:145", after := #[{ on := 1, ground := Ground.data }], guard := none }) (v := ?tkv703) rfl (by kernel_rfl) (by kernel_rfl) (by kernel_rfl) (fun _ _ _ h => h) (Or.inl ⟨by rfl, ?tky703⟩) hH0 ?tkr703
      case tky703 => (intro w' hSw; have z0 := HBX.out _ hSw; clear hSw; go_simp; try with_reducible rfl)
      try simp only [Act.put, List.setIfInBounds_toArray, List.set_cons_zero, List.set_cons_succ]
      refine wpAnyH_take (i := 3) (oi := { dst := some 20, op := Op.fieldAddr 70 (Operand.tmp 5) 1, type := 0, pos := "wheel.go:145", after := #[], guard := none }) (v := ?tkv704) rfl (by kernel_rfl) (by kernel_rfl) (by kernel_rfl) (fun _ _ _ h => h) (Or.inl ⟨by rfl, ?tky704⟩) hH0 ?tkr704
      case tky704 => (intro w' hSw; clear hSw; go_simp; try with_reducible rfl)
      try simp only [Act.put, List.setIfInBounds_toArray, List.set_cons_zero, List.set_cons_succ]
      refine wpAnyH_take (i := 4) (oi := { dst := some 21, op := Op.load 23 (Operand.tmp 20), type := 23, pos := "wheel.go:145", after := #[{ on := 3, ground := Ground.data }], guard := none }) (v := ?tkv705) rfl (by kernel_rfl) (by kernel_rfl) (by kernel_rfl) (fun _ _ _ h => h) (Or.inl ⟨by rfl, ?tky705⟩) hH0 ?tkr705
      case tky705 => (intro w' hSw; have z0 := HBX.out _ hSw; clear hSw; go_simp; try with_reducible rfl)
      try simp only [Act.put, List.setIfInBounds_toArray, List.set_cons_zero, List.set_cons_succ]
      refine wpAnyH_ready (rs := [5]) (by kernel_rfl) (by simp) ?_
      refine AllReadyH.cons (o := { dst := some 22, op := Op.call { callee := Callee.value (Operand.func 38), args := #[Operand.tmp 21], argTypes := #[23] }, type := 23, pos := "wheel.go:145", after := #[{ on := 4, ground := Ground.data }], guard := none }) rfl (fun K hK => ?_) AllReadyH.nil
      go_simp
      refine (HCL.out wd700 (hH0)).mono ?_
      rintro e' wn706 ⟨Ac706, nc706, rc, rfl, hnc706, ho706, hb706⟩
      obtain rfl : sz = nc706 := (hnc706.out.trans HDL.out).symm
      obtain ⟨rg, rcc706, hv706, hg706, hl706⟩ := ho706.form (by omega)
      injection hv706 with e1706 e2706 e3706
      subst e1706 e3706
      have HNW706 : Hid (RNew w gr (.slice Av nv cv) rg 0 sz d wn706) := Lib.hid (rnew_of HVL.out HGL.out HBL.out (Nat.le_trans HSB.out (hH0).lt) hg706 hl706 (Row.of_own ho706))
      clear ho706 hnc706
      go_simp
      have HRWd_706 := Lib.hid (HRWd.out.below hb706)
      have hS706 : SQ w gr rk wn706 := ((hH0).below hb706)
      refine hK.out _ _ hS706 (fun hH706 => ?_)
      have hH706 : SQ w gr rk wn706 := hH706
      clear hK K hS706
      try simp only [Act.put, List.setIfInBounds_toArray, List.set_cons_zero, List.set_cons_succ]
      refine wpAnyH_take (i := 6) (oi := { dst := some 23, op := Op.build 70 #[(0, Operand.tmp 19), (1, Operand.tmp 22)], type := 70, pos := "wheel.go:145", after := #[{ on := 2, ground := Ground.data }, { on := 5, ground := Ground.data }], guard := none }) (v := ?tkv707) rfl (by kernel_rfl) (by kernel_rfl) (by kernel_rfl) (fun _ _ _ h => h) (Or.inl ⟨by rfl, ?tky707⟩) hH706 ?tkr707
      case tky707 => (intro w' hSw; clear hSw; go_simp; try with_reducible rfl)
      try simp only [Act.put, List.setIfInBounds_toArray, List.set_cons_zero, List.set_cons_succ]
      refine wpAnyH_ready (rs := [7]) (by kernel_rfl) (by simp) ?_
      refine AllReadyH.cons (o := { dst := some 24, op := Op.buildSlice 67 1 #[(0, Operand.tmp 23)], type := 67, pos := "wheel.go:145", after := #[{ on := 6, ground := Ground.data }], guard := none }) rfl (fun K hK => ?_) AllReadyH.nil
      go_simp
      have hb708 : Below wn706.heap.size wn706 (wn706.alloc (.cells #[.int .u32 (rid : Int), .slice (some ⟨rg, 0, none⟩) sz rc] 70)) := (Below.refl _ _).alloc (Nat.le_refl _) _
      have AX708 : Hid ((wn706.alloc (.cells #[.int .u32 (rid : Int), .slice (some ⟨rg, 0, none⟩) sz rc] 70)).heap[wn706.heap.size]? = some (.cells #[.int .u32 (rid : Int), .slice (some ⟨rg, 0, none⟩) sz rc] 70 (0, 0))) := Lib.hid (heap_alloc_new _ _)
      have AL708 : Hid (wn706.heap.size < (wn706.alloc (.cells #[.int .u32 (rid : Int), .slice (some ⟨rg, 0, none⟩) sz rc] 70)).heap.size) := Lib.hid (by simp)
      generalize (wn706.alloc (.cells #[.int .u32 (rid : Int), .slice (some ⟨rg, 0, none⟩) sz rc] 70)) = wn708 at *
      have HRWd_708 := Lib.hid (HRWd_706.out.below hb708)
      have HNW706_708 := Lib.hid (HNW706.out.below hb708)
      have hS708 : SQ w gr rk wn708 := ((hH706).below hb708)
      refine hK.out _ _ hS708 (fun hH708 => ?_)
      have hH708 : SQ w gr rk wn708 := hH708
      clear hK K hS708
      try simp only [Act.put, List.setIfInBounds_toArray, List.set_cons_zero, List.set_cons_succ]
      refine wpAnyH_ready (rs := [8]) (by kernel_rfl) (by simp) ?_
      refine AllReadyH.cons (o := { dst := some 25, op := Op.call { callee := Callee.builtin Builtin.append, args := #[Operand.tmp 17, Operand.tmp 24], argTypes := #[67, 67] }, type := 67, pos := "wheel.go:145", after := #[{ on := 0, ground := Ground.data }, { on := 7, ground := Ground.data }, { on := 5, ground := Ground.chain }], guard := none }) rfl (fun K hK => ?_) AllReadyH.nil
      rw [if_pos (by rfl)]
      refine wp_app2 (.tmp 17) (.tmp 24) 67 rfl 0 70 i0 _ 32 Tryz.underlying67 hi hz0 hz1 hz2 rfl _ nv _ rfl HRWd_708.out.1 _ 1 _ _ 70 rfl AX708.out rfl rfl (by have := HNV.out; unfold maxLen; omega) (by have := HNV.out; omega) (Nat.zero_le _) ?_
      intro v4 w4 hown4 hg4 hat4
      obtain ⟨A4, c4, rfl⟩ := own2_form hown4
      have HAPPD := HNW706_708.out
      have hcell : rcells es ++ [.int .u32 (rid : Int), .slice (some ⟨rg, 0, none⟩) sz rc] = rcells es ++ (⟨rid, some ⟨rg, 0, none⟩, sz, rc, d⟩ : RRow).cells := rfl
      rw [hcell] at hown4
      have HAPP : Hid (RecW (fun b => w.heap.size ≤ b) w4 (.slice A4 (nv + 1) c4) (nv + 1) (es ++ [⟨rid, some ⟨rg, 0, none⟩, sz, rc, d⟩])) := Lib.hid (RecW.next (Q := fun b => w.heap.size ≤ b) (Q' := fun b => w.heap.size ≤ b) HRWd_708.out ⟨rg, 0, rfl, HAPPD.1, HAPPD.2.1, HAPPD.2.2.2.1, HAPPD.2.2.2.2⟩ hown4 hg4 hat4 (fun _ h => h) (fun _ => (hH708).b.size))
      have HMP : Hid ((es ++ [(⟨rid, some ⟨rg, 0, none⟩, sz, rc, d⟩ : RRow)]).map RRow.pair = h.L.take (k + 1)) := Lib.hid (by
        rw [List.map_append, HM0.out, List.take_succ_eq_append_getElem HKL.out, HPK.out]; rfl)
      have hS709 : SQ w gr rk w4 := ((hH708).app hg4 (HVO.out) (HNO.out))
      refine hK.out _ _ hS709 (fun hH709 => ?_)
      have hH709 : SQ w gr rk w4 := hH709
      clear hK K hS709
      try simp only [Act.put, List.setIfInBounds_toArray, List.set_cons_zero, List.set_cons_succ]
      refine wpAnyH_take (i := 9) (oi := { dst := some 3, op := Op.assign (Operand.tmp 25), type := 67, pos := "wheel.go:145", after := #[{ on := 8, ground := Ground.data }, { on := 8, ground := Ground.chain }, { on := 0, ground := Ground.phase }, { on := 1, ground := Ground.phase }, { on := 2, ground := Ground.phase }, { on := 3, ground := Ground.phase }, { on := 4, ground := Ground.phase }, { on := 5, ground := Ground.phase }, { on := 6, ground := Ground.phase }, { on := 7, ground := Ground.phase }, { on := 8, ground := Ground.phase }], guard := none }) (v := ?tkv710) rfl (by kernel_rfl) (by kernel_rfl) (by kernel_rfl) (fun _ _ _ h => h) (Or.inl ⟨by rfl, ?tky710⟩) hH709 ?tkr710
      case tky710 => (intro w' hSw; clear hSw; go_simp; try with_reducible rfl)
      try simp only [Act.put, List.setIfInBounds_toArray, List.set_cons_zero, List.set_cons_succ]
      refine wpAnyH_done (by kernel_rfl) ?_ _
      refine NoPanic.normal ?_
      have HSE := Lib.hid (hH709)
      clear HAPPD
      go_wp2_with fail
      go_roundw
      case rel => exact ⟨k + 1, nv + 1, c4, A4, _, by omega, by go_num, rfl, HAPP, HMP, HSE.out.lb, Lib.hid (by rw [HNK.out])⟩
      case measure => simp [intOf]; omega
    · obtain rfl : k = nw := by omega
      go_wp2_with fail
      go_ret
      refine ⟨Av, nv, cv, es, rfl, hrec, ?_, hb⟩
      have := hmp.out
      rw [List.take_of_length_le (by rw [← HNW.out]; exact Nat.le_refl _)] at this
      exact this
end Go.Proofs.YtoblapnnpjgpnaaGreatDoor
namespace Go.Proofs.YtoblapnnpjgpnaaGreatDoor
open Go.RowKit
end Go.Proofs.YtoblapnnpjgpnaaGreatDoor
