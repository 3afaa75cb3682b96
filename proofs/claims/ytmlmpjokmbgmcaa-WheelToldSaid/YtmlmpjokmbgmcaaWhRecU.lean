/- Wheel: Records: what it tells may be written. -/
import Derived.Test.YtmlmpjokmbgmcaaWhRecs
namespace Go.Proofs.Ytmlmpjokmbgmcaa
open Go.RowKit
/-- a block of bytes that may be written -/
structure UBk (g : Nat) (W : World) : Prop where
  is : ∃ cs : Array Value, W.heap[g]? = some (.cells cs 5 (0, 0))
theorem UBk.lt {g : Nat} {W : World} (h : UBk g W) : g < W.heap.size := by
  obtain ⟨cs, h⟩ := h.is
  exact (Array.getElem?_eq_some_iff.1 h).1
theorem UBk.keep {g : Nat} {W W' : World} (h : UBk g W) (hb : W'.heap[g]? = W.heap[g]?) : UBk g W' := by
  obtain ⟨cs, h⟩ := h.is
  exact ⟨cs, hb.trans h⟩
theorem UBk.below {g : Nat} {W W' : World} (h : UBk g W) (hb : Below W.heap.size W W') : UBk g W' := h.keep (hb.block g h.lt)
theorem ubk_of {W : World} {B g n c k : Nat} {xs : List Value} (h : W.ownsRow B 5 1 (.slice (some ⟨g, 0, none⟩) n c) k xs) : UBk g W := by
  rcases h.2 with ⟨hv, _⟩ | ⟨g2, cap, cur, hv, _, hg, _⟩
  · cases hv
  · injection hv with e _ _
    injection e with e
    injection e with e
    rw [e]
    exact ⟨cur, hg⟩
/-- the records' data may be written -/
structure URs (es : List RRow) (W : World) : Prop where
  is : ∀ r ∈ es, ∃ g, r.A = some ⟨g, 0, none⟩ ∧ UBk g W
theorem URs.nil (W : World) : URs [] W := ⟨fun r h => by cases h⟩
theorem URs.below {es : List RRow} {W W' : World} (h : URs es W) (hb : Below W.heap.size W W') : URs es W' := ⟨fun r hr => by
  obtain ⟨g, e, hu⟩ := h.is r hr
  exact ⟨g, e, hu.below hb⟩⟩
theorem URs.next {es : List RRow} {W W' : World} {Q : Nat → Prop} {v : Value} {n rid rg sz rc : Nat} {d : List UInt8} (h : URs es W) (hr : RecW Q W v n es) (hg : W.grownBy W' v.ownBlock) (hu : UBk rg W) (hn : v.ownBlock ≠ some rg) : URs (es ++ [⟨rid, some ⟨rg, 0, none⟩, sz, rc, d⟩]) W' := ⟨fun r hm => by
  rcases List.mem_append.1 hm with hm | hm
  · obtain ⟨g, e, hu2⟩ := h.is r hm
    obtain ⟨g2, o2, e2, _, _, hne, _⟩ := hr.2.2.2 r hm
    rw [e] at e2
    injection e2 with e2
    injection e2 with e2
    exact ⟨g, e, hu2.keep (hg.block g hu2.lt (fun q => hne (by rw [← e2]; exact q.symm)))⟩
  · obtain rfl := List.mem_singleton.1 hm
    exact ⟨rg, rfl, hu.keep (hg.block rg hu.lt (fun q => hn q.symm))⟩⟩
def RecsT (L : List (Nat × List UInt8)) (w : World) (e : Ending) (w' : World) : Prop :=
  ∃ A n c es, e = .returned (.slice A n c) ∧ Hid (RecW (fun b => w.heap.size ≤ b) w' (.slice A n c) n es) ∧ Hid (es.map RRow.pair = L) ∧ Hid (Below w.heap.size w w') ∧ Hid (URs es w')
set_option maxRecDepth 100000 in
set_option maxHeartbeats 12800000 in
theorem recs_told (P : Nat → Prop) (gw gf : Nat) (h : Wh) (w : World) (hW : WhAt P gw gf h w) (hlen : ∀ p ∈ h.L, 1 ≤ p.2.length ∧ p.2.length ≤ 1000) (hm : h.L.length ≤ 1000) :
    Calls Try.prog 38 #[.pointer (some ⟨gw, 0, none⟩)] w (RecsT h.L w) := by
  obtain ⟨i0, hi, hz0, hz1, hz2⟩ := info_parts Try.info73
  have HE := Lib.hid (wempty_no hW)
  have HLEN := Lib.hid hlen
  have HMM := Lib.hid hm
  obtain ⟨Aw, nw, cw, ew, hg, -, -, hrw0, hes0⟩ := hW
  have u3 := (wc6 hg).2.2.2.1
  have HR0 := Lib.hid hrw0
  have HES0 := Lib.hid hes0
  have hnw : nw = h.L.length := by rw [← hes0, ← hrw0.2.2.1]; simp
  have hnwi : (nw : Int) ≤ 1000 := by omega
  have HNW := Lib.hid hnw
  clear hg hrw0 hes0 hlen hm hnw
  go_enter Try.func38, Try.ntmps38
  go_wp2_with fail
  refine HE.out.mono ?_
  rintro e w' ⟨rfl, rfl⟩
  go_wp2_with fail
  go_loopw [3, 13] (fun s i wr => ∃ (k nv cv : Nat) (Av : Option Addr) (es : List RRow), k ≤ nw ∧ i = .int .i64 k ∧ s = .slice Av nv cv ∧ Hid (RecW (fun b => w.heap.size ≤ b) wr (.slice Av nv cv) nv es) ∧ Hid (es.map RRow.pair = h.L.take k) ∧ Hid (Below w.heap.size w wr) ∧ Hid (nv = k) ∧ Hid (URs es wr)) (fun _ i _ => nw - (intOf i).toNat)
  case atStart => exact ⟨0, 0, 0, none, [], by omega, rfl, rfl, RecW.nil _ _, rfl, Below.refl _ _, rfl, URs.nil _⟩
  case round =>
    obtain ⟨k, nv, cv, Av, es, hk, rfl, rfl, hrec, hmp, hb, hnv, hur⟩ := hrel
    by_cases hlt : k < nw
    · obtain ⟨ga, rfl, hk2, c0, c1, -⟩ := (HR0.out.below hb.out).at_ hlt
      obtain ⟨ga2, hga2, hk3, hcc0, hcc1, hrc⟩ := HR0.out.at_ hlt
      clear hga2 hcc0 hcc1
      have HNK := hnv
      have hki : (k : Int) < (nw : Int) := by omega
      have HPR : Hid (h.L[k]? = some ((ew[k].id, ew[k].d))) := by
        show _ = _
        rw [← HES0.out, List.getElem?_map, List.getElem?_eq_getElem hk2]; rfl
      have HKL : Hid (k < h.L.length) := by show _ < _; rw [← HNW.out]; exact hlt
      generalize ew[k] = rw0 at *
      obtain ⟨rid, rA, rn, rc0, d⟩ := rw0
      dsimp only at c0 c1 HPR
      have HPK : Hid (h.L[k]'(HKL.out) = (rid, d)) := by
        show _ = _
        have := HPR.out
        rw [List.getElem?_eq_getElem HKL.out] at this
        injection this
      have hmem : ((rid, d) : Nat × List UInt8) ∈ h.L := by rw [← HPK.out]; exact List.getElem_mem _
      have hdl := HLEN.out _ hmem
      dsimp only at hdl
      obtain ⟨rg0, ro0, hra, hq0, hl0, hn0, hrow0⟩ := hrc
      dsimp only at hra hrow0
      subst hra
      obtain rfl : rn = d.length := hrow0.blen.symm
      obtain ⟨sz, hsz⟩ : ∃ sz, d.length = sz := ⟨_, rfl⟩
      rw [hsz] at c1 hrow0 hdl
      have HDL : Hid (d.length = sz) := hsz
      have HRO := Lib.hid hrow0
      have hq0' := hb.out.size
      have HRG0 := Lib.hid hl0
      clear hsz hmem hrow0 hq0 hn0 hl0
      have hlen2 := HMM.out
      go_upto_region 7 with fail
      have hba : Below wr.heap.size wr (wr.alloc (.cells #[.int .u32 (rid : Int), .slice (some ⟨rg0, ro0, none⟩) sz rc0] 73)) := (Below.refl _ _).alloc (Nat.le_refl _) _
      have hbx := heap_alloc_new wr (.cells #[.int .u32 (rid : Int), .slice (some ⟨rg0, ro0, none⟩) sz rc0] 73)
      obtain ⟨wb, hwb⟩ : ∃ wb, wr.alloc (.cells #[.int .u32 (rid : Int), .slice (some ⟨rg0, ro0, none⟩) sz rc0] 73) = wb := ⟨_, rfl⟩
      rw [hwb] at hba hbx ⊢
      obtain ⟨gr, hgr⟩ : ∃ gr, wr.heap.size = gr := ⟨_, rfl⟩
      rw [hgr] at hbx ⊢
      obtain ⟨rk, hrk⟩ : ∃ rk : Array Value, rk = #[.int .u32 (rid : Int), .slice (some ⟨rg0, ro0, none⟩) sz rc0] := ⟨_, rfl⟩
      have SQB : Hid (SQ w gr rk wb) := ⟨hb.out.trans (hba.mono hq0'), by rw [hrk]; exact hbx⟩
      have HBX : Hid (∀ W : World, SQ w gr rk W → W.cell? ⟨gr, 0, none⟩ = some (.int .u32 (rid : Int)) ∧ W.cell? ⟨gr, 1, none⟩ = some (.slice (some ⟨rg0, ro0, none⟩) sz rc0)) := fun W hW => rc2 (by rw [← hrk]; exact hW.box)
      have HRW : Hid (RecW (fun b => w.heap.size ≤ b) wb (.slice Av nv cv) nv es) := hrec.out.below hba
      have HUR : Hid (URs es wb) := hur.out.below hba
      have hvl : ∀ g, (Value.slice Av nv cv).ownBlock = some g → g < wr.heap.size := fun g hg => (hrec.out.1.lt g hg).2
      have HVO : Hid (∀ g, (Value.slice Av nv cv).ownBlock = some g → w.heap.size ≤ g) := hrec.out.2.1
      have HNO : Hid ((Value.slice Av nv cv).ownBlock ≠ some gr) := fun e => by have := hvl gr e; omega
      have hsb := hba.size
      have HVL : Hid (∀ g, (Value.slice Av nv cv).ownBlock = some g → g < wb.heap.size) := fun g hg => Nat.lt_of_lt_of_le (hvl g hg) hsb
      obtain ⟨gw2, hgw2⟩ : ∃ gw2, gw2 = gr := ⟨_, rfl⟩
      have HGL : Hid (gr < wb.heap.size) := SQB.out.lt
      have HBL : Hid (w.heap.size ≤ wb.heap.size) := SQB.out.b.size
      have HM0 := Lib.hid hmp.out
      have HNV : Hid (nv ≤ 1000) := by show _ ≤ _; have := HNK.out; omega
      have HSB : Hid (wb.heap.size ≤ gr + 1) := by show _ ≤ _; rw [← hwb, ← hgr]; simp
      have HROW : Hid (∀ W : World, SQ w gr rk W → Row W W.heap.size (some ⟨rg0, ro0, none⟩) sz (bv d)) := fun W hW => (HRO.out.below hW.b).more hW.b.size
      have HCL : Hid (∀ W : World, SQ w gr rk W → Calls Try.prog 56 #[.slice (some ⟨rg0, ro0, none⟩) sz rc0] W (FreshBytes W.heap.size d W)) := fun W hS =>
        clone_any W.heap.size sz rc0 _ d W (HROW.out W hS) (by omega) (Nat.le_refl _)
      clear hnv hwb hgr hrk hba hbx hrec hmp hb hvl hgw2 hsb hlen2 hq0'
      refine wp_region_noPanic ?_
      refine wp_region_held_drew (S := (fun W => SQ w gr rk W)) (by kernel_rfl) (SQB.out.below (Below.refl _ _).drew) (fun hH0 => ?_)
      have hH0 : SQ w gr rk wb.drew := hH0
      have HRWd := Lib.hid (HRW.out.below ((Below.refl wb.heap.size wb).drew))
      have HURd := Lib.hid (HUR.out.below ((Below.refl wb.heap.size wb).drew))
      generalize wb.drew = wd700 at *
      refine wpAnyH_take (i := 0) (oi := { dst := some 17, op := Op.move (Operand.tmp 3), type := 66, pos := "wheel.go:145", after := #[], guard := none }) (v := ?tkv701) rfl (by kernel_rfl) (by kernel_rfl) (by kernel_rfl) (fun _ _ _ h => h) (Or.inl ⟨by rfl, ?tky701⟩) hH0 ?tkr701
      case tky701 => (intro w' hSw; clear hSw; go_simp; try with_reducible rfl)
      try simp only [Act.put, List.setIfInBounds_toArray, List.set_cons_zero, List.set_cons_succ]
      refine wpAnyH_take (i := 1) (oi := { dst := some 18, op := Op.fieldAddr 73 (Operand.tmp 5) 0, type := 0, pos := "wheel.go:145", after := #[], guard := none }) (v := ?tkv702) rfl (by kernel_rfl) (by kernel_rfl) (by kernel_rfl) (fun _ _ _ h => h) (Or.inl ⟨by rfl, ?tky702⟩) hH0 ?tkr702
      case tky702 => (intro w' hSw; clear hSw; go_simp; try with_reducible rfl)
      try simp only [Act.put, List.setIfInBounds_toArray, List.set_cons_zero, List.set_cons_succ]
      refine wpAnyH_take (i := 2) (oi := { dst := some 19, op := Op.load 53 (Operand.tmp 18), type := 53, pos := "wheel.go:145", after := #[{ on := 1, ground := Ground.data }], guard := none }) (v := ?tkv703) rfl (by kernel_rfl) (by kernel_rfl) (by kernel_rfl) (fun _ _ _ h => h) (Or.inl ⟨by rfl, ?tky703⟩) hH0 ?tkr703
      case tky703 => (intro w' hSw; have z0 := HBX.out _ hSw; clear hSw; go_simp; try with_reducible rfl)
      try simp only [Act.put, List.setIfInBounds_toArray, List.set_cons_zero, List.set_cons_succ]
      refine wpAnyH_take (i := 3) (oi := { dst := some 20, op := Op.fieldAddr 73 (Operand.tmp 5) 1, type := 0, pos := "wheel.go:145", after := #[], guard := none }) (v := ?tkv704) rfl (by kernel_rfl) (by kernel_rfl) (by kernel_rfl) (fun _ _ _ h => h) (Or.inl ⟨by rfl, ?tky704⟩) hH0 ?tkr704
      case tky704 => (intro w' hSw; clear hSw; go_simp; try with_reducible rfl)
      try simp only [Act.put, List.setIfInBounds_toArray, List.set_cons_zero, List.set_cons_succ]
      refine wpAnyH_take (i := 4) (oi := { dst := some 21, op := Op.load 27 (Operand.tmp 20), type := 27, pos := "wheel.go:145", after := #[{ on := 3, ground := Ground.data }], guard := none }) (v := ?tkv705) rfl (by kernel_rfl) (by kernel_rfl) (by kernel_rfl) (fun _ _ _ h => h) (Or.inl ⟨by rfl, ?tky705⟩) hH0 ?tkr705
      case tky705 => (intro w' hSw; have z0 := HBX.out _ hSw; clear hSw; go_simp; try with_reducible rfl)
      try simp only [Act.put, List.setIfInBounds_toArray, List.set_cons_zero, List.set_cons_succ]
      refine wpAnyH_ready (rs := [5]) (by kernel_rfl) (by simp) ?_
      refine AllReadyH.cons (o := { dst := some 22, op := Op.call { callee := Callee.value (Operand.func 56), args := #[Operand.tmp 21], argTypes := #[27] }, type := 27, pos := "wheel.go:145", after := #[{ on := 4, ground := Ground.data }], guard := none }) rfl (fun K hK => ?_) AllReadyH.nil
      go_simp
      refine (HCL.out wd700 (hH0)).mono ?_
      rintro e' wn706 ⟨Ac706, nc706, rc, rfl, hnc706, ho706, hb706⟩
      obtain rfl : sz = nc706 := (hnc706.out.trans HDL.out).symm
      obtain ⟨rg, rcc706, hv706, hg706, hl706⟩ := ho706.form (by omega)
      injection hv706 with e1706 e2706 e3706
      subst e1706 e3706
      have HNW706 : Hid (RNew w gr (.slice Av nv cv) rg 0 sz d wn706) := Lib.hid (rnew_of HVL.out HGL.out HBL.out (Nat.le_trans HSB.out (hH0).lt) hg706 hl706 (Row.of_own ho706))
      have HUB706 : Hid (UBk rg wn706) := Lib.hid (ubk_of ho706)
      clear ho706 hnc706
      go_simp
      have HRWd_706 := Lib.hid (HRWd.out.below hb706)
      have HURd_706 := Lib.hid (HURd.out.below hb706)
      have hS706 : SQ w gr rk wn706 := ((hH0).below hb706)
      refine hK.out _ _ hS706 (fun hH706 => ?_)
      have hH706 : SQ w gr rk wn706 := hH706
      clear hK K hS706
      try simp only [Act.put, List.setIfInBounds_toArray, List.set_cons_zero, List.set_cons_succ]
      refine wpAnyH_take (i := 6) (oi := { dst := some 23, op := Op.build 73 #[(0, Operand.tmp 19), (1, Operand.tmp 22)], type := 73, pos := "wheel.go:145", after := #[{ on := 2, ground := Ground.data }, { on := 5, ground := Ground.data }], guard := none }) (v := ?tkv707) rfl (by kernel_rfl) (by kernel_rfl) (by kernel_rfl) (fun _ _ _ h => h) (Or.inl ⟨by rfl, ?tky707⟩) hH706 ?tkr707
      case tky707 => (intro w' hSw; clear hSw; go_simp; try with_reducible rfl)
      try simp only [Act.put, List.setIfInBounds_toArray, List.set_cons_zero, List.set_cons_succ]
      refine wpAnyH_ready (rs := [7]) (by kernel_rfl) (by simp) ?_
      refine AllReadyH.cons (o := { dst := some 24, op := Op.buildSlice 66 1 #[(0, Operand.tmp 23)], type := 66, pos := "wheel.go:145", after := #[{ on := 6, ground := Ground.data }], guard := none }) rfl (fun K hK => ?_) AllReadyH.nil
      go_simp
      have hb708 : Below wn706.heap.size wn706 (wn706.alloc (.cells #[.int .u32 (rid : Int), .slice (some ⟨rg, 0, none⟩) sz rc] 73)) := (Below.refl _ _).alloc (Nat.le_refl _) _
      have AX708 : Hid ((wn706.alloc (.cells #[.int .u32 (rid : Int), .slice (some ⟨rg, 0, none⟩) sz rc] 73)).heap[wn706.heap.size]? = some (.cells #[.int .u32 (rid : Int), .slice (some ⟨rg, 0, none⟩) sz rc] 73 (0, 0))) := Lib.hid (heap_alloc_new _ _)
      have AL708 : Hid (wn706.heap.size < (wn706.alloc (.cells #[.int .u32 (rid : Int), .slice (some ⟨rg, 0, none⟩) sz rc] 73)).heap.size) := Lib.hid (by simp)
      generalize (wn706.alloc (.cells #[.int .u32 (rid : Int), .slice (some ⟨rg, 0, none⟩) sz rc] 73)) = wn708 at *
      have HRWd_708 := Lib.hid (HRWd_706.out.below hb708)
      have HURd_708 := Lib.hid (HURd_706.out.below hb708)
      have HNW706_708 := Lib.hid (HNW706.out.below hb708)
      have HUB706_708 := Lib.hid (HUB706.out.below hb708)
      have hS708 : SQ w gr rk wn708 := ((hH706).below hb708)
      refine hK.out _ _ hS708 (fun hH708 => ?_)
      have hH708 : SQ w gr rk wn708 := hH708
      clear hK K hS708
      try simp only [Act.put, List.setIfInBounds_toArray, List.set_cons_zero, List.set_cons_succ]
      refine wpAnyH_ready (rs := [8]) (by kernel_rfl) (by simp) ?_
      refine AllReadyH.cons (o := { dst := some 25, op := Op.call { callee := Callee.builtin Builtin.append, args := #[Operand.tmp 17, Operand.tmp 24], argTypes := #[66, 66] }, type := 66, pos := "wheel.go:145", after := #[{ on := 0, ground := Ground.data }, { on := 7, ground := Ground.data }, { on := 5, ground := Ground.chain }], guard := none }) rfl (fun K hK => ?_) AllReadyH.nil
      rw [if_pos (by rfl)]
      refine wp_app2 (.tmp 17) (.tmp 24) 66 rfl 0 73 i0 _ 32 Try.underlying66 hi hz0 hz1 hz2 rfl _ nv _ rfl HRWd_708.out.1 _ 1 _ _ 73 rfl AX708.out rfl rfl (by have := HNV.out; unfold maxLen; omega) (by have := HNV.out; omega) (Nat.zero_le _) ?_
      intro v4 w4 hown4 hg4 hat4
      obtain ⟨A4, c4, rfl⟩ := own2_form hown4
      have HAPPD := HNW706_708.out
      have hcell : rcells es ++ [.int .u32 (rid : Int), .slice (some ⟨rg, 0, none⟩) sz rc] = rcells es ++ (⟨rid, some ⟨rg, 0, none⟩, sz, rc, d⟩ : RRow).cells := rfl
      rw [hcell] at hown4
      have HAPP : Hid (RecW (fun b => w.heap.size ≤ b) w4 (.slice A4 (nv + 1) c4) (nv + 1) (es ++ [⟨rid, some ⟨rg, 0, none⟩, sz, rc, d⟩])) := Lib.hid (RecW.next (Q := fun b => w.heap.size ≤ b) (Q' := fun b => w.heap.size ≤ b) HRWd_708.out ⟨rg, 0, rfl, HAPPD.1, HAPPD.2.1, HAPPD.2.2.2.1, HAPPD.2.2.2.2⟩ hown4 hg4 hat4 (fun _ h => h) (fun _ => (hH708).b.size))
      have HURA : Hid (URs (es ++ [⟨rid, some ⟨rg, 0, none⟩, sz, rc, d⟩]) w4) := Lib.hid (HURd_708.out.next HRWd_708.out hg4 HUB706_708.out HAPPD.2.2.2.1)
      have HMP : Hid ((es ++ [(⟨rid, some ⟨rg, 0, none⟩, sz, rc, d⟩ : RRow)]).map RRow.pair = h.L.take (k + 1)) := Lib.hid (by
        rw [List.map_append, HM0.out, List.take_succ_eq_append_getElem HKL.out, HPK.out]; rfl)
      have hS709 : SQ w gr rk w4 := ((hH708).app hg4 (HVO.out) (HNO.out))
      refine hK.out _ _ hS709 (fun hH709 => ?_)
      have hH709 : SQ w gr rk w4 := hH709
      clear hK K hS709
      try simp only [Act.put, List.setIfInBounds_toArray, List.set_cons_zero, List.set_cons_succ]
      refine wpAnyH_take (i := 9) (oi := { dst := some 3, op := Op.assign (Operand.tmp 25), type := 66, pos := "wheel.go:145", after := #[{ on := 8, ground := Ground.data }, { on := 8, ground := Ground.chain }, { on := 0, ground := Ground.phase }, { on := 1, ground := Ground.phase }, { on := 2, ground := Ground.phase }, { on := 3, ground := Ground.phase }, { on := 4, ground := Ground.phase }, { on := 5, ground := Ground.phase }, { on := 6, ground := Ground.phase }, { on := 7, ground := Ground.phase }, { on := 8, ground := Ground.phase }], guard := none }) (v := ?tkv710) rfl (by kernel_rfl) (by kernel_rfl) (by kernel_rfl) (fun _ _ _ h => h) (Or.inl ⟨by rfl, ?tky710⟩) hH709 ?tkr710
      case tky710 => (intro w' hSw; clear hSw; go_simp; try with_reducible rfl)
      try simp only [Act.put, List.setIfInBounds_toArray, List.set_cons_zero, List.set_cons_succ]
      refine wpAnyH_done (by kernel_rfl) ?_ _
      refine NoPanic.normal ?_
      have HSE := Lib.hid (hH709)
      clear HAPPD
      go_wp2_with fail
      go_roundw
      case rel => exact ⟨k + 1, nv + 1, c4, A4, _, by omega, by go_num, rfl, HAPP, HMP, HSE.out.lb, Lib.hid (by rw [HNK.out]), HURA⟩
      case measure => simp [intOf]; omega
    · obtain rfl : k = nw := by omega
      go_wp2_with fail
      go_ret
      refine ⟨Av, nv, cv, es, rfl, hrec, ?_, hb, hur⟩
      have := hmp.out
      rw [List.take_of_length_le (by rw [← HNW.out]; exact Nat.le_refl _)] at this
      exact this
end Go.Proofs.Ytmlmpjokmbgmcaa
