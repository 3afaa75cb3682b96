/- Wheel: Records: by contract. The reference's SameRecords of equal records: by contract. -/
import Derived.Test.YtekaoodagaplmaaWhAdd
import Derived.Deep.RegionHeld3
namespace Go.Proofs.Ytekaoodagaplmaa
open Go.RowKit
/-- what holds while a record is copied, it lies in block gr -/
structure SQ (w : World) (gr : Nat) (cs : Array Value) (W : World) : Prop where
  b : Below w.heap.size w W
  box : W.heap[gr]? = some (.cells cs 77 (0, 0))
section
variable {w W W' : World} {gr : Nat} {v : Value} {cs : Array Value}
theorem SQ.lt (h : SQ w gr cs W) : gr < W.heap.size := (Array.getElem?_eq_some_iff.1 h.box).1
theorem SQ.lb (h : SQ w gr cs W) : Hid (Below w.heap.size w W) := h.b
theorem SQ.below (h : SQ w gr cs W) (hb : Below W.heap.size W W') : SQ w gr cs W' := ⟨h.b.trans (hb.mono h.b.size), (hb.block gr h.lt).trans h.box⟩
theorem SQ.app (h : SQ w gr cs W) (hg : W.grownBy W' v.ownBlock) (hv : ∀ g, v.ownBlock = some g → w.heap.size ≤ g) (hn : v.ownBlock ≠ some gr) : SQ w gr cs W' :=
  ⟨h.b.grown hg h.b.size hv, (hg.block gr h.lt (fun e => hn e.symm)).trans h.box⟩
end
theorem own2_form0 {w : World} {base : Nat} {e : TypeId} {v : Value} {n k : Nat} {xs : List Value} (h : w.ownsRow base e k v n xs) : ∃ A c, v = .slice A n c := by
  rcases h.2 with ⟨hv, h0⟩ | ⟨g, cap, cur, hv', _⟩
  · exact ⟨none, 0, by rw [hv, h0]⟩
  · exact ⟨_, _, hv'⟩
/-- record k of a list -/
theorem RecW.at_ {Q : Nat → Prop} {W : World} {A : Option Addr} {n c k : Nat} {es : List RRow} (h : RecW Q W (.slice A n c) n es) (hk : k < n) :
    ∃ g, A = some ⟨g, 0, none⟩ ∧ ∃ hk2 : k < es.length, W.cell? ⟨g, k * 2, none⟩ = some (.int .u32 (es[k].id : Int)) ∧ W.cell? ⟨g, k * 2 + 1, none⟩ = some (.slice es[k].A es[k].n es[k].c) ∧ RcAt Q W (.slice A n c) es[k] := by
  have hl := h.2.2.1
  have hk2 : k < es.length := by omega
  rcases h.1.2 with ⟨hv, h0⟩ | ⟨g, cap, cur, hv, _, hg, _, _, _, ht⟩
  · omega
  · injection hv with e1 e2 e3
    subst e1 e3
    have hj : ∀ (es : List RRow) (k : Nat) (hk : k < es.length), (rcells es)[k * 2]? = some (.int .u32 (es[k].id : Int)) ∧ (rcells es)[k * 2 + 1]? = some (.slice es[k].A es[k].n es[k].c) := by
      intro es
      induction es with
      | nil => intro k hk; exact absurd hk (by simp)
      | cons r t ih =>
        intro k hk
        cases k with
        | zero => exact ⟨rfl, rfl⟩
        | succ k =>
          have e : rcells (r :: t) = .int .u32 (r.id : Int) :: .slice r.A r.n r.c :: rcells t := rfl
          rw [e, show (k + 1) * 2 = k * 2 + 1 + 1 by omega]
          exact ih k (by simpa using hk)
    have hlt : ∀ j u, (rcells es)[j]? = some u → W.cell? ⟨g, j, none⟩ = some u := by
      intro j u hu
      rw [cell_of_row W g j cur _ (0, 0) hg]
      rw [← ht] at hu
      have hl := (List.getElem?_eq_some_iff.1 hu).1
      rw [List.getElem?_take_of_lt (by simp at hl; omega)] at hu
      simpa using hu
    exact ⟨g, rfl, hk2, hlt _ _ (hj es k hk2).1, hlt _ _ (hj es k hk2).2, h.2.2.2 _ (List.getElem_mem hk2)⟩
def RecsOk (L : List (Nat × List UInt8)) (w : World) (e : Ending) (w' : World) : Prop :=
  ∃ A n c es, e = .returned (.slice A n c) ∧ Hid (RecW (fun b => w.heap.size ≤ b) w' (.slice A n c) n es) ∧ Hid (es.map RRow.pair = L) ∧ Hid (Below w.heap.size w w')
theorem recs_nil (w : World) : Calls Try.prog 17 #[.pointer none] w fun e w' => e = .returned (.slice none 0 0) ∧ w = w' := by
  have HE := Lib.hid (wempty_nil w)
  go_enter Try.func17, Try.ntmps17
  go_wp2_with fail
  refine HE.out.mono ?_
  rintro e w' ⟨rfl, rfl⟩
  go_wp2_with fail
  go_ret
  exact ⟨rfl, rfl⟩
set_option maxRecDepth 100000 in
set_option maxHeartbeats 12800000 in
theorem recs_any (P : Nat → Prop) (gw gf : Nat) (h : Wh) (w : World) (hW : WhAt P gw gf h w) (hlen : ∀ p ∈ h.L, 1 ≤ p.2.length ∧ p.2.length ≤ 1000) (hm : h.L.length ≤ 1000) :
    Calls Try.prog 17 #[.pointer (some ⟨gw, 0, none⟩)] w (RecsOk h.L w) := by
  obtain ⟨i0, hi, hz0, hz1, hz2⟩ := info_parts Try.info77
  have HE := Lib.hid (wempty_no hW)
  have HLEN := Lib.hid hlen
  have HMM := Lib.hid hm
  obtain ⟨Aw, nw, cw, ew, hg, -, -, hrw0, hes0⟩ := hW
  have u3 := (wc6 hg).2.2.2.1
  have HR0 := Lib.hid hrw0
  have HES0 := Lib.hid hes0
  have hnw : nw = h.L.length := by rw [← hes0, ← hrw0.2.2.1]; simp
  have hnwi : (nw : Int) ≤ 1000 := by omega
  have HNW := Lib.hid hnw
  clear hg hrw0 hes0 hlen hm hnw
  go_enter Try.func17, Try.ntmps17
  go_wp2_with fail
  refine HE.out.mono ?_
  rintro e w' ⟨rfl, rfl⟩
  go_wp2_with fail
  go_loopw [3, 13] (fun s i wr => ∃ (k nv cv : Nat) (Av : Option Addr) (es : List RRow), k ≤ nw ∧ i = .int .i64 k ∧ s = .slice Av nv cv ∧ Hid (RecW (fun b => w.heap.size ≤ b) wr (.slice Av nv cv) nv es) ∧ Hid (es.map RRow.pair = h.L.take k) ∧ Hid (Below w.heap.size w wr) ∧ Hid (nv = k)) (fun _ i _ => nw - (intOf i).toNat)
  case atStart => exact ⟨0, 0, 0, none, [], by omega, rfl, rfl, RecW.nil _ _, rfl, Below.refl _ _, rfl⟩
  case round =>
    obtain ⟨k, nv, cv, Av, es, hk, rfl, rfl, hrec, hmp, hb, hnv⟩ := hrel
    by_cases hlt : k < nw
    · obtain ⟨ga, rfl, hk2, c0, c1, -⟩ := (HR0.out.below hb.out).at_ hlt
      obtain ⟨ga2, hga2, hk3, hcc0, hcc1, hrc⟩ := HR0.out.at_ hlt
      clear hga2 hcc0 hcc1
      have HNK := hnv
      have hki : (k : Int) < (nw : Int) := by omega
      have HPR : Hid (h.L[k]? = some ((ew[k].id, ew[k].d))) := by
        show _ = _
        rw [← HES0.out, List.getElem?_map, List.getElem?_eq_getElem hk2]; rfl
      have HKL : Hid (k < h.L.length) := by show _ < _; rw [← HNW.out]; exact hlt
      generalize ew[k] = rw0 at *
      obtain ⟨rid, rA, rn, rc0, d⟩ := rw0
      dsimp only at c0 c1 HPR
      have HPK : Hid (h.L[k]'(HKL.out) = (rid, d)) := by
        show _ = _
        have := HPR.out
        rw [List.getElem?_eq_getElem HKL.out] at this
        injection this
      have hmem : ((rid, d) : Nat × List UInt8) ∈ h.L := by rw [← HPK.out]; exact List.getElem_mem _
      have hdl := HLEN.out _ hmem
      dsimp only at hdl
      obtain ⟨rg0, ro0, hra, hq0, hl0, hn0, hrow0⟩ := hrc
      dsimp only at hra hrow0
      subst hra
      obtain rfl : rn = d.length := hrow0.blen.symm
      obtain ⟨sz, hsz⟩ : ∃ sz, d.length = sz := ⟨_, rfl⟩
      rw [hsz] at c1 hrow0 hdl
      have HDL : Hid (d.length = sz) := hsz
      have HRO := Lib.hid hrow0
      have hq0' := hb.out.size
      have HRG0 := Lib.hid hl0
      clear hsz hmem hrow0 hq0 hn0 hl0
      have hlen2 := HMM.out
      go_upto_region 7 with fail
      have hba : Below wr.heap.size wr (wr.alloc (.cells #[.int .u32 (rid : Int), .slice (some ⟨rg0, ro0, none⟩) sz rc0] 77)) := (Below.refl _ _).alloc (Nat.le_refl _) _
      have hbx := heap_alloc_new wr (.cells #[.int .u32 (rid : Int), .slice (some ⟨rg0, ro0, none⟩) sz rc0] 77)
      obtain ⟨wb, hwb⟩ : ∃ wb, wr.alloc (.cells #[.int .u32 (rid : Int), .slice (some ⟨rg0, ro0, none⟩) sz rc0] 77) = wb := ⟨_, rfl⟩
      rw [hwb] at hba hbx ⊢
      obtain ⟨gr, hgr⟩ : ∃ gr, wr.heap.size = gr := ⟨_, rfl⟩
      rw [hgr] at hbx ⊢
      obtain ⟨rk, hrk⟩ : ∃ rk : Array Value, rk = #[.int .u32 (rid : Int), .slice (some ⟨rg0, ro0, none⟩) sz rc0] := ⟨_, rfl⟩
      have SQB : Hid (SQ w gr rk wb) := ⟨hb.out.trans (hba.mono hq0'), by rw [hrk]; exact hbx⟩
      have HBX : Hid (∀ W : World, SQ w gr rk W → W.cell? ⟨gr, 0, none⟩ = some (.int .u32 (rid : Int)) ∧ W.cell? ⟨gr, 1, none⟩ = some (.slice (some ⟨rg0, ro0, none⟩) sz rc0)) := fun W hW => rc2 (by rw [← hrk]; exact hW.box)
      have HRW : Hid (RecW (fun b => w.heap.size ≤ b) wb (.slice Av nv cv) nv es) := hrec.out.below hba
      have hvl : ∀ g, (Value.slice Av nv cv).ownBlock = some g → g < wr.heap.size := fun g hg => (hrec.out.1.lt g hg).2
      have HVO : Hid (∀ g, (Value.slice Av nv cv).ownBlock = some g → w.heap.size ≤ g) := hrec.out.2.1
      have HNO : Hid ((Value.slice Av nv cv).ownBlock ≠ some gr) := fun e => by have := hvl gr e; omega
      have hsb := hba.size
      have HVL : Hid (∀ g, (Value.slice Av nv cv).ownBlock = some g → g < wb.heap.size) := fun g hg => Nat.lt_of_lt_of_le (hvl g hg) hsb
      obtain ⟨gw2, hgw2⟩ : ∃ gw2, gw2 = gr := ⟨_, rfl⟩
      have HGL : Hid (gr < wb.heap.size) := SQB.out.lt
      have HBL : Hid (w.heap.size ≤ wb.heap.size) := SQB.out.b.size
      have HM0 := Lib.hid hmp.out
      have HNV : Hid (nv ≤ 1000) := by show _ ≤ _; have := HNK.out; omega
      have HSB : Hid (wb.heap.size ≤ gr + 1) := by show _ ≤ _; rw [← hwb, ← hgr]; simp
      have HROW : Hid (∀ W : World, SQ w gr rk W → Row W W.heap.size (some ⟨rg0, ro0, none⟩) sz (bv d)) := fun W hW => (HRO.out.below hW.b).more hW.b.size
      have HCL : Hid (∀ W : World, SQ w gr rk W → Calls Try.prog 35 #[.slice (some ⟨rg0, ro0, none⟩) sz rc0] W (FreshBytes W.heap.size d W)) := fun W hS =>
        clone_any W.heap.size sz rc0 _ d W (HROW.out W hS) (by omega) (Nat.le_refl _)
      clear hnv hwb hgr hrk hba hbx hrec hmp hb hvl hgw2 hsb hlen2 hq0'
      refine wp_region_noPanic ?_
      refine wp_region_held_drew (S := (fun W => SQ w gr rk W)) (by kernel_rfl) (SQB.out.below (Below.refl _ _).drew) (fun hH0 => ?_)
      have hH0 : SQ w gr rk wb.drew := hH0
      have HRWd := Lib.hid (HRW.out.below ((Below.refl wb.heap.size wb).drew))
      generalize wb.drew = wd700 at *
      refine wpAnyH_take (i := 0) (oi := { dst := some 17, op := Op.move (Operand.tmp 3), type := 44, pos := "wheel.go:145", after := #[], guard := none }) (v := ?tkv701) rfl (by kernel_rfl) (by kernel_rfl) (by kernel_rfl) (fun _ _ _ h => h) (Or.inl ⟨by rfl, ?tky701⟩) hH0 ?tkr701
      case tky701 => (intro w' hSw; clear hSw; go_simp; try with_reducible rfl)
      try simp only [Act.put, List.setIfInBounds_toArray, List.set_cons_zero, List.set_cons_succ]
      refine wpAnyH_take (i := 1) (oi := { dst := some 18, op := Op.fieldAddr 77 (Operand.tmp 5) 0, type := 0, pos := "wheel.go:145", after := #[], guard := none }) (v := ?tkv702) rfl (by kernel_rfl) (by kernel_rfl) (by kernel_rfl) (fun _ _ _ h => h) (Or.inl ⟨by rfl, ?tky702⟩) hH0 ?tkr702
      case tky702 => (intro w' hSw; clear hSw; go_simp; try with_reducible rfl)
      try simp only [Act.put, List.setIfInBounds_toArray, List.set_cons_zero, List.set_cons_succ]
      refine wpAnyH_take (i := 2) (oi := { dst := some 19, op := Op.load 22 (Operand.tmp 18), type := 22, pos := "wheel.go:145", after := #[{ on := 1, ground := Ground.data }], guard := none }) (v := ?tkv703) rfl (by kernel_rfl) (by kernel_rfl) (by kernel_rfl) (fun _ _ _ h => h) (Or.inl ⟨by rfl, ?tky703⟩) hH0 ?tkr703
      case tky703 => (intro w' hSw; have z0 := HBX.out _ hSw; clear hSw; go_simp; try with_reducible rfl)
      try simp only [Act.put, List.setIfInBounds_toArray, List.set_cons_zero, List.set_cons_succ]
      refine wpAnyH_take (i := 3) (oi := { dst := some 20, op := Op.fieldAddr 77 (Operand.tmp 5) 1, type := 0, pos := "wheel.go:145", after := #[], guard := none }) (v := ?tkv704) rfl (by kernel_rfl) (by kernel_rfl) (by kernel_rfl) (fun _ _ _ h => h) (Or.inl ⟨by rfl, ?tky704⟩) hH0 ?tkr704
      case tky704 => (intro w' hSw; clear hSw; go_simp; try with_reducible rfl)
      try simp only [Act.put, List.setIfInBounds_toArray, List.set_cons_zero, List.set_cons_succ]
      refine wpAnyH_take (i := 4) (oi := { dst := some 21, op := Op.load 37 (Operand.tmp 20), type := 37, pos := "wheel.go:145", after := #[{ on := 3, ground := Ground.data }], guard := none }) (v := ?tkv705) rfl (by kernel_rfl) (by kernel_rfl) (by kernel_rfl) (fun _ _ _ h => h) (Or.inl ⟨by rfl, ?tky705⟩) hH0 ?tkr705
      case tky705 => (intro w' hSw; have z0 := HBX.out _ hSw; clear hSw; go_simp; try with_reducible rfl)
      try simp only [Act.put, List.setIfInBounds_toArray, List.set_cons_zero, List.set_cons_succ]
      refine wpAnyH_ready (rs := [5]) (by kernel_rfl) (by simp) ?_
      refine AllReadyH.cons (o := { dst := some 22, op := Op.call { callee := Callee.value (Operand.func 35), args := #[Operand.tmp 21], argTypes := #[37] }, type := 37, pos := "wheel.go:145", after := #[{ on := 4, ground := Ground.data }], guard := none }) rfl (fun K hK => ?_) AllReadyH.nil
      go_simp
      refine (HCL.out wd700 (hH0)).mono ?_
      rintro e' wn706 ⟨Ac706, nc706, rc, rfl, hnc706, ho706, hb706⟩
      obtain rfl : sz = nc706 := (hnc706.out.trans HDL.out).symm
      obtain ⟨rg, rcc706, hv706, hg706, hl706⟩ := ho706.form (by omega)
      injection hv706 with e1706 e2706 e3706
      subst e1706 e3706
      have HNW706 : Hid (RNew w gr (.slice Av nv cv) rg 0 sz d wn706) := Lib.hid (rnew_of HVL.out HGL.out HBL.out (Nat.le_trans HSB.out (hH0).lt) hg706 hl706 (Row.of_own ho706))
      clear ho706 hnc706
      go_simp
      have HRWd_706 := Lib.hid (HRWd.out.below hb706)
      have hS706 : SQ w gr rk wn706 := ((hH0).below hb706)
      refine hK.out _ _ hS706 (fun hH706 => ?_)
      have hH706 : SQ w gr rk wn706 := hH706
      clear hK K hS706
      try simp only [Act.put, List.setIfInBounds_toArray, List.set_cons_zero, List.set_cons_succ]
      refine wpAnyH_take (i := 6) (oi := { dst := some 23, op := Op.build 77 #[(0, Operand.tmp 19), (1, Operand.tmp 22)], type := 77, pos := "wheel.go:145", after := #[{ on := 2, ground := Ground.data }, { on := 5, ground := Ground.data }], guard := none }) (v := ?tkv707) rfl (by kernel_rfl) (by kernel_rfl) (by kernel_rfl) (fun _ _ _ h => h) (Or.inl ⟨by rfl, ?tky707⟩) hH706 ?tkr707
      case tky707 => (intro w' hSw; clear hSw; go_simp; try with_reducible rfl)
      try simp only [Act.put, List.setIfInBounds_toArray, List.set_cons_zero, List.set_cons_succ]
      refine wpAnyH_ready (rs := [7]) (by kernel_rfl) (by simp) ?_
      refine AllReadyH.cons (o := { dst := some 24, op := Op.buildSlice 44 1 #[(0, Operand.tmp 23)], type := 44, pos := "wheel.go:145", after := #[{ on := 6, ground := Ground.data }], guard := none }) rfl (fun K hK => ?_) AllReadyH.nil
      go_simp
      have hb708 : Below wn706.heap.size wn706 (wn706.alloc (.cells #[.int .u32 (rid : Int), .slice (some ⟨rg, 0, none⟩) sz rc] 77)) := (Below.refl _ _).alloc (Nat.le_refl _) _
      have AX708 : Hid ((wn706.alloc (.cells #[.int .u32 (rid : Int), .slice (some ⟨rg, 0, none⟩) sz rc] 77)).heap[wn706.heap.size]? = some (.cells #[.int .u32 (rid : Int), .slice (some ⟨rg, 0, none⟩) sz rc] 77 (0, 0))) := Lib.hid (heap_alloc_new _ _)
      have AL708 : Hid (wn706.heap.size < (wn706.alloc (.cells #[.int .u32 (rid : Int), .slice (some ⟨rg, 0, none⟩) sz rc] 77)).heap.size) := Lib.hid (by simp)
      generalize (wn706.alloc (.cells #[.int .u32 (rid : Int), .slice (some ⟨rg, 0, none⟩) sz rc] 77)) = wn708 at *
      have HRWd_708 := Lib.hid (HRWd_706.out.below hb708)
      have HNW706_708 := Lib.hid (HNW706.out.below hb708)
      have hS708 : SQ w gr rk wn708 := ((hH706).below hb708)
      refine hK.out _ _ hS708 (fun hH708 => ?_)
      have hH708 : SQ w gr rk wn708 := hH708
      clear hK K hS708
      try simp only [Act.put, List.setIfInBounds_toArray, List.set_cons_zero, List.set_cons_succ]
      refine wpAnyH_ready (rs := [8]) (by kernel_rfl) (by simp) ?_
      refine AllReadyH.cons (o := { dst := some 25, op := Op.call { callee := Callee.builtin Builtin.append, args := #[Operand.tmp 17, Operand.tmp 24], argTypes := #[44, 44] }, type := 44, pos := "wheel.go:145", after := #[{ on := 0, ground := Ground.data }, { on := 7, ground := Ground.data }, { on := 5, ground := Ground.chain }], guard := none }) rfl (fun K hK => ?_) AllReadyH.nil
      rw [if_pos (by rfl)]
      refine wp_app2 (.tmp 17) (.tmp 24) 44 rfl 0 77 i0 _ 32 Try.underlying44 hi hz0 hz1 hz2 rfl _ nv _ rfl HRWd_708.out.1 _ 1 _ _ 77 rfl AX708.out rfl rfl (by have := HNV.out; unfold maxLen; omega) (by have := HNV.out; omega) (Nat.zero_le _) ?_
      intro v4 w4 hown4 hg4 hat4
      obtain ⟨A4, c4, rfl⟩ := own2_form hown4
      have HAPPD := HNW706_708.out
      have hcell : rcells es ++ [.int .u32 (rid : Int), .slice (some ⟨rg, 0, none⟩) sz rc] = rcells es ++ (⟨rid, some ⟨rg, 0, none⟩, sz, rc, d⟩ : RRow).cells := rfl
      rw [hcell] at hown4
      have HAPP : Hid (RecW (fun b => w.heap.size ≤ b) w4 (.slice A4 (nv + 1) c4) (nv + 1) (es ++ [⟨rid, some ⟨rg, 0, none⟩, sz, rc, d⟩])) := Lib.hid (RecW.next (Q := fun b => w.heap.size ≤ b) (Q' := fun b => w.heap.size ≤ b) HRWd_708.out ⟨rg, 0, rfl, HAPPD.1, HAPPD.2.1, HAPPD.2.2.2.1, HAPPD.2.2.2.2⟩ hown4 hg4 hat4 (fun _ h => h) (fun _ => (hH708).b.size))
      have HMP : Hid ((es ++ [(⟨rid, some ⟨rg, 0, none⟩, sz, rc, d⟩ : RRow)]).map RRow.pair = h.L.take (k + 1)) := Lib.hid (by
        rw [List.map_append, HM0.out, List.take_succ_eq_append_getElem HKL.out, HPK.out]; rfl)
      have hS709 : SQ w gr rk w4 := ((hH708).app hg4 (HVO.out) (HNO.out))
      refine hK.out _ _ hS709 (fun hH709 => ?_)
      have hH709 : SQ w gr rk w4 := hH709
      clear hK K hS709
      try simp only [Act.put, List.setIfInBounds_toArray, List.set_cons_zero, List.set_cons_succ]
      refine wpAnyH_take (i := 9) (oi := { dst := some 3, op := Op.assign (Operand.tmp 25), type := 44, pos := "wheel.go:145", after := #[{ on := 8, ground := Ground.data }, { on := 8, ground := Ground.chain }, { on := 0, ground := Ground.phase }, { on := 1, ground := Ground.phase }, { on := 2, ground := Ground.phase }, { on := 3, ground := Ground.phase }, { on := 4, ground := Ground.phase }, { on := 5, ground := Ground.phase }, { on := 6, ground := Ground.phase }, { on := 7, ground := Ground.phase }, { on := 8, ground := Ground.phase }], guard := none }) (v := ?tkv710) rfl (by kernel_rfl) (by kernel_rfl) (by kernel_rfl) (fun _ _ _ h => h) (Or.inl ⟨by rfl, ?tky710⟩) hH709 ?tkr710
      case tky710 => (intro w' hSw; clear hSw; go_simp; try with_reducible rfl)
      try simp only [Act.put, List.setIfInBounds_toArray, List.set_cons_zero, List.set_cons_succ]
      refine wpAnyH_done (by kernel_rfl) ?_ _
      refine NoPanic.normal ?_
      have HSE := Lib.hid (hH709)
      clear HAPPD
      go_wp2_with fail
      go_roundw
      case rel => exact ⟨k + 1, nv + 1, c4, A4, _, by omega, by go_num, rfl, HAPP, HMP, HSE.out.lb, Lib.hid (by rw [HNK.out])⟩
      case measure => simp [intOf]; omega
    · obtain rfl : k = nw := by omega
      go_wp2_with fail
      go_ret
      refine ⟨Av, nv, cv, es, rfl, hrec, ?_, hb⟩
      have := hmp.out
      rw [List.take_of_length_le (by rw [← HNW.out]; exact Nat.le_refl _)] at this
      exact this
end Go.Proofs.Ytekaoodagaplmaa
namespace Go.Proofs.Ytekaoodagaplmaa
open Go.RowKit
set_option maxRecDepth 100000 in
set_option maxHeartbeats 3200000 in
theorem wsame_yes (Q Q' : Nat → Prop) (n c c' : Nat) (A A' : Option Addr) (es es' : List RRow) (w : World) (hl : RecW Q w (.slice A n c) n es) (hl' : RecW Q' w (.slice A' n c') n es') (he : es.map RRow.pair = es'.map RRow.pair) (hn : n ≤ 1000000) :
    Calls Try.prog 16 #[.slice A n c, .slice A' n c'] w fun e w' => e = .returned (.bool true) ∧ Hid (Below w.heap.size w w') := by
  have HE := Lib.hid he
  have HL := Lib.hid hl
  have HL' := Lib.hid hl'
  have hnn : ((n : Int) != (n : Int)) = false := bne_self_eq_false _
  clear he hl hl'
  go_enter Try.func16, Try.ntmps16
  go_wp2_with fail
  go_loopw [13] (fun i wr => ∃ k : Nat, k ≤ n ∧ i = .int .i64 k ∧ Hid (Below w.heap.size w wr)) (fun i _ => n - (intOf i).toNat)
  case atStart => exact ⟨0, by omega, rfl, Below.refl _ _⟩
  case round =>
    obtain ⟨k, hk, rfl, hb⟩ := hrel
    by_cases hlt : k < n
    · obtain ⟨ga, rfl, hk1, c0, c1, hrc⟩ := (HL.out.below hb.out).at_ hlt
      obtain ⟨gb, rfl, hk2, d0, d1, hrd⟩ := (HL'.out.below hb.out).at_ hlt
      have hki : (k : Int) < (n : Int) := by omega
      have heq : es[k].pair = es'[k].pair := by
        have h1 : (es.map RRow.pair)[k]? = some es[k].pair := by rw [List.getElem?_map, List.getElem?_eq_getElem hk1]; rfl
        have h2 : (es'.map RRow.pair)[k]? = some es'[k].pair := by rw [List.getElem?_map, List.getElem?_eq_getElem hk2]; rfl
        rw [HE.out, h2] at h1
        injection h1 with h1
        exact h1.symm
      generalize es[k] = r at *
      generalize es'[k] = r' at *
      obtain ⟨rid, rA, rn, rc, rd⟩ := r
      obtain ⟨rid', rA', rn', rc', rd'⟩ := r'
      injection heq with e1 e2
      dsimp only at e1 e2 c0 c1 d0 d1
      subst e1 e2
      obtain ⟨_, _, _, _, _, _, hrow⟩ := hrc
      obtain ⟨_, _, _, _, _, _, hrow'⟩ := hrd
      dsimp only at hrow hrow'
      have HFX : Hid (∀ W : World, Below wr.heap.size wr W → (W.cell? ⟨ga, k * 2, none⟩ = some (.int .u32 (rid : Int)) ∧ W.cell? ⟨ga, k * 2 + 1, none⟩ = some (.slice rA rn rc) ∧ W.cell? ⟨gb, k * 2, none⟩ = some (.int .u32 (rid : Int)) ∧ W.cell? ⟨gb, k * 2 + 1, none⟩ = some (.slice rA' rn' rc')) ∧
          (convert 37 9 (.slice rA rn rc)).run Try.prog W = .ok (.string ⟨rd.toArray⟩) W ∧ (convert 37 9 (.slice rA' rn' rc')).run Try.prog W = .ok (.string ⟨rd.toArray⟩) W) := fun W hW => by
        refine ⟨⟨(hW.cell (p := ⟨ga, k * 2, none⟩) (block_lt_of_cell c0)).trans c0, (hW.cell (p := ⟨ga, k * 2 + 1, none⟩) (block_lt_of_cell c1)).trans c1, (hW.cell (p := ⟨gb, k * 2, none⟩) (block_lt_of_cell d0)).trans d0, (hW.cell (p := ⟨gb, k * 2 + 1, none⟩) (block_lt_of_cell d1)).trans d1⟩, ?_, ?_⟩
        · exact run_string_row (P := Try.prog) (hrow.below hW) rc 37 9 5 Try.underlying37 Try.underlying5 Try.underlying9
        · exact run_string_row (P := Try.prog) (hrow'.below hW) rc' 37 9 5 Try.underlying37 Try.underlying5 Try.underlying9
      have hid0 : ((rid : Int) != (rid : Int)) = false := bne_self_eq_false _
      clear hrow hrow' c0 c1 d0 d1
      go_upto_region 6 with fail
      refine wp_region_noPanic ?_
      refine wp_region_held_drew (S := (fun W => Below (wr.heap.size) wr W)) (by kernel_rfl) (Below.refl _ _).drew (fun hH0 => ?_)
      have hH0 : Below (wr.heap.size) wr wr.drew := hH0
      generalize wr.drew = wd600 at *
      refine wpAnyH_take (i := 0) (oi := { dst := some 16, op := Op.move (Operand.tmp 0), type := 44, pos := "ref.go:290", after := #[], guard := none }) (v := ?tkv601) rfl (by kernel_rfl) (by kernel_rfl) (by kernel_rfl) (fun _ _ _ h => h) (Or.inl ⟨by rfl, ?tky601⟩) hH0 ?tkr601
      case tky601 => (intro w' hSw; clear hSw; go_simp; try with_reducible rfl)
      try simp only [Act.put, List.setIfInBounds_toArray, List.set_cons_zero, List.set_cons_succ]
      refine wpAnyH_take (i := 1) (oi := { dst := some 17, op := Op.move (Operand.tmp 5), type := 3, pos := "ref.go:290", after := #[], guard := none }) (v := ?tkv602) rfl (by kernel_rfl) (by kernel_rfl) (by kernel_rfl) (fun _ _ _ h => h) (Or.inl ⟨by rfl, ?tky602⟩) hH0 ?tkr602
      case tky602 => (intro w' hSw; clear hSw; go_simp; try with_reducible rfl)
      try simp only [Act.put, List.setIfInBounds_toArray, List.set_cons_zero, List.set_cons_succ]
      refine wpAnyH_take (i := 2) (oi := { dst := some 18, op := Op.indexAddr 44 (Operand.tmp 16) (Operand.tmp 17), type := 0, pos := "ref.go:290", after := #[{ on := 0, ground := Ground.data }, { on := 1, ground := Ground.data }], guard := none }) (v := ?tkv603) rfl (by kernel_rfl) (by kernel_rfl) (by kernel_rfl) (fun _ _ _ h => h) (Or.inl ⟨by rfl, ?tky603⟩) hH0 ?tkr603
      case tky603 => (intro w' hSw; clear hSw; go_simp; try with_reducible rfl)
      try simp only [Act.put, List.setIfInBounds_toArray, List.set_cons_zero, List.set_cons_succ]
      refine wpAnyH_take (i := 3) (oi := { dst := some 19, op := Op.fieldAddr 77 (Operand.tmp 18) 0, type := 0, pos := "ref.go:290", after := #[{ on := 2, ground := Ground.data }], guard := none }) (v := ?tkv604) rfl (by kernel_rfl) (by kernel_rfl) (by kernel_rfl) (fun _ _ _ h => h) (Or.inl ⟨by rfl, ?tky604⟩) hH0 ?tkr604
      case tky604 => (intro w' hSw; clear hSw; go_simp; try with_reducible rfl)
      try simp only [Act.put, List.setIfInBounds_toArray, List.set_cons_zero, List.set_cons_succ]
      refine wpAnyH_take (i := 4) (oi := { dst := some 20, op := Op.load 22 (Operand.tmp 19), type := 22, pos := "ref.go:290", after := #[{ on := 3, ground := Ground.data }], guard := none }) (v := ?tkv605) rfl (by kernel_rfl) (by kernel_rfl) (by kernel_rfl) (fun _ _ _ h => h) (Or.inl ⟨by rfl, ?tky605⟩) hH0 ?tkr605
      case tky605 => (intro w' hSw; have z0 := HFX.out _ hSw; clear hSw; go_simp; try with_reducible rfl)
      try simp only [Act.put, List.setIfInBounds_toArray, List.set_cons_zero, List.set_cons_succ]
      refine wpAnyH_take (i := 5) (oi := { dst := some 21, op := Op.move (Operand.tmp 1), type := 44, pos := "ref.go:290", after := #[], guard := none }) (v := ?tkv606) rfl (by kernel_rfl) (by kernel_rfl) (by kernel_rfl) (fun _ _ _ h => h) (Or.inl ⟨by rfl, ?tky606⟩) hH0 ?tkr606
      case tky606 => (intro w' hSw; clear hSw; go_simp; try with_reducible rfl)
      try simp only [Act.put, List.setIfInBounds_toArray, List.set_cons_zero, List.set_cons_succ]
      refine wpAnyH_take (i := 6) (oi := { dst := some 22, op := Op.move (Operand.tmp 5), type := 3, pos := "ref.go:290", after := #[], guard := none }) (v := ?tkv607) rfl (by kernel_rfl) (by kernel_rfl) (by kernel_rfl) (fun _ _ _ h => h) (Or.inl ⟨by rfl, ?tky607⟩) hH0 ?tkr607
      case tky607 => (intro w' hSw; clear hSw; go_simp; try with_reducible rfl)
      try simp only [Act.put, List.setIfInBounds_toArray, List.set_cons_zero, List.set_cons_succ]
      refine wpAnyH_take (i := 7) (oi := { dst := some 23, op := Op.indexAddr 44 (Operand.tmp 21) (Operand.tmp 22), type := 0, pos := "ref.go:290", after := #[{ on := 5, ground := Ground.data }, { on := 6, ground := Ground.data }], guard := none }) (v := ?tkv608) rfl (by kernel_rfl) (by kernel_rfl) (by kernel_rfl) (fun _ _ _ h => h) (Or.inl ⟨by rfl, ?tky608⟩) hH0 ?tkr608
      case tky608 => (intro w' hSw; clear hSw; go_simp; try with_reducible rfl)
      try simp only [Act.put, List.setIfInBounds_toArray, List.set_cons_zero, List.set_cons_succ]
      refine wpAnyH_take (i := 8) (oi := { dst := some 24, op := Op.fieldAddr 77 (Operand.tmp 23) 0, type := 0, pos := "ref.go:290", after := #[{ on := 7, ground := Ground.data }], guard := none }) (v := ?tkv609) rfl (by kernel_rfl) (by kernel_rfl) (by kernel_rfl) (fun _ _ _ h => h) (Or.inl ⟨by rfl, ?tky609⟩) hH0 ?tkr609
      case tky609 => (intro w' hSw; clear hSw; go_simp; try with_reducible rfl)
      try simp only [Act.put, List.setIfInBounds_toArray, List.set_cons_zero, List.set_cons_succ]
      refine wpAnyH_take (i := 9) (oi := { dst := some 25, op := Op.load 22 (Operand.tmp 24), type := 22, pos := "ref.go:290", after := #[{ on := 8, ground := Ground.data }], guard := none }) (v := ?tkv610) rfl (by kernel_rfl) (by kernel_rfl) (by kernel_rfl) (fun _ _ _ h => h) (Or.inl ⟨by rfl, ?tky610⟩) hH0 ?tkr610
      case tky610 => (intro w' hSw; have z0 := HFX.out _ hSw; clear hSw; go_simp; try with_reducible rfl)
      try simp only [Act.put, List.setIfInBounds_toArray, List.set_cons_zero, List.set_cons_succ]
      refine wpAnyH_take (i := 10) (oi := { dst := some 26, op := Op.binOp BinOp.neq 22 (Operand.tmp 20) (Operand.tmp 25) 22, type := 4, pos := "ref.go:290", after := #[{ on := 4, ground := Ground.data }, { on := 9, ground := Ground.data }], guard := none }) (v := ?tkv611) rfl (by kernel_rfl) (by kernel_rfl) (by kernel_rfl) (fun _ _ _ h => h) (Or.inl ⟨by rfl, ?tky611⟩) hH0 ?tkr611
      case tky611 => (intro w' hSw; clear hSw; go_simp; try with_reducible rfl)
      try simp only [Act.put, List.setIfInBounds_toArray, List.set_cons_zero, List.set_cons_succ]
      refine wpAnyH_take (i := 11) (oi := { dst := some 27, op := Op.move (Operand.tmp 26), type := 4, pos := "ref.go:290", after := #[{ on := 10, ground := Ground.data }], guard := none }) (v := ?tkv612) rfl (by kernel_rfl) (by kernel_rfl) (by kernel_rfl) (fun _ _ _ h => h) (Or.inl ⟨by rfl, ?tky612⟩) hH0 ?tkr612
      case tky612 => (intro w' hSw; clear hSw; go_simp; try with_reducible rfl)
      try simp only [Act.put, List.setIfInBounds_toArray, List.set_cons_zero, List.set_cons_succ]
      refine wpAnyH_take (i := 12) (oi := { dst := some 28, op := Op.move (Operand.tmp 0), type := 44, pos := "ref.go:290", after := #[{ on := 11, ground := Ground.guard }], guard := some (11, false) }) (v := ?tkv613) rfl (by kernel_rfl) (by kernel_rfl) (by kernel_rfl) (fun _ _ _ h => h) (Or.inl ⟨by rfl, ?tky613⟩) hH0 ?tkr613
      case tky613 => (intro w' hSw; clear hSw; go_simp; try with_reducible rfl)
      try simp only [Act.put, List.setIfInBounds_toArray, List.set_cons_zero, List.set_cons_succ]
      refine wpAnyH_take (i := 13) (oi := { dst := some 29, op := Op.move (Operand.tmp 5), type := 3, pos := "ref.go:290", after := #[{ on := 11, ground := Ground.guard }], guard := some (11, false) }) (v := ?tkv614) rfl (by kernel_rfl) (by kernel_rfl) (by kernel_rfl) (fun _ _ _ h => h) (Or.inl ⟨by rfl, ?tky614⟩) hH0 ?tkr614
      case tky614 => (intro w' hSw; clear hSw; go_simp; try with_reducible rfl)
      try simp only [Act.put, List.setIfInBounds_toArray, List.set_cons_zero, List.set_cons_succ]
      refine wpAnyH_take (i := 14) (oi := { dst := some 30, op := Op.indexAddr 44 (Operand.tmp 28) (Operand.tmp 29), type := 0, pos := "ref.go:290", after := #[{ on := 12, ground := Ground.data }, { on := 13, ground := Ground.data }, { on := 11, ground := Ground.guard }], guard := some (11, false) }) (v := ?tkv615) rfl (by kernel_rfl) (by kernel_rfl) (by kernel_rfl) (fun _ _ _ h => h) (Or.inl ⟨by rfl, ?tky615⟩) hH0 ?tkr615
      case tky615 => (intro w' hSw; clear hSw; go_simp; try with_reducible rfl)
      try simp only [Act.put, List.setIfInBounds_toArray, List.set_cons_zero, List.set_cons_succ]
      refine wpAnyH_take (i := 15) (oi := { dst := some 31, op := Op.fieldAddr 77 (Operand.tmp 30) 1, type := 0, pos := "ref.go:290", after := #[{ on := 14, ground := Ground.data }, { on := 11, ground := Ground.guard }], guard := some (11, false) }) (v := ?tkv616) rfl (by kernel_rfl) (by kernel_rfl) (by kernel_rfl) (fun _ _ _ h => h) (Or.inl ⟨by rfl, ?tky616⟩) hH0 ?tkr616
      case tky616 => (intro w' hSw; clear hSw; go_simp; try with_reducible rfl)
      try simp only [Act.put, List.setIfInBounds_toArray, List.set_cons_zero, List.set_cons_succ]
      refine wpAnyH_take (i := 16) (oi := { dst := some 32, op := Op.load 37 (Operand.tmp 31), type := 37, pos := "ref.go:290", after := #[{ on := 15, ground := Ground.data }, { on := 11, ground := Ground.guard }], guard := some (11, false) }) (v := ?tkv617) rfl (by kernel_rfl) (by kernel_rfl) (by kernel_rfl) (fun _ _ _ h => h) (Or.inl ⟨by rfl, ?tky617⟩) hH0 ?tkr617
      case tky617 => (intro w' hSw; have z0 := HFX.out _ hSw; clear hSw; go_simp; try with_reducible rfl)
      try simp only [Act.put, List.setIfInBounds_toArray, List.set_cons_zero, List.set_cons_succ]
      refine wpAnyH_take (i := 17) (oi := { dst := some 33, op := Op.convert 37 9 (Operand.tmp 32), type := 9, pos := "ref.go:290", after := #[{ on := 16, ground := Ground.data }, { on := 11, ground := Ground.guard }], guard := some (11, false) }) (v := ?tkv618) rfl (by kernel_rfl) (by kernel_rfl) (by kernel_rfl) (fun _ _ _ h => h) (Or.inl ⟨by rfl, ?tky618⟩) hH0 ?tkr618
      case tky618 => (intro w' hSw; have z0 := HFX.out _ hSw; clear hSw; go_simp; try with_reducible rfl)
      try simp only [Act.put, List.setIfInBounds_toArray, List.set_cons_zero, List.set_cons_succ]
      refine wpAnyH_take (i := 18) (oi := { dst := some 34, op := Op.move (Operand.tmp 1), type := 44, pos := "ref.go:290", after := #[{ on := 11, ground := Ground.guard }], guard := some (11, false) }) (v := ?tkv619) rfl (by kernel_rfl) (by kernel_rfl) (by kernel_rfl) (fun _ _ _ h => h) (Or.inl ⟨by rfl, ?tky619⟩) hH0 ?tkr619
      case tky619 => (intro w' hSw; clear hSw; go_simp; try with_reducible rfl)
      try simp only [Act.put, List.setIfInBounds_toArray, List.set_cons_zero, List.set_cons_succ]
      refine wpAnyH_take (i := 19) (oi := { dst := some 35, op := Op.move (Operand.tmp 5), type := 3, pos := "ref.go:290", after := #[{ on := 11, ground := Ground.guard }], guard := some (11, false) }) (v := ?tkv620) rfl (by kernel_rfl) (by kernel_rfl) (by kernel_rfl) (fun _ _ _ h => h) (Or.inl ⟨by rfl, ?tky620⟩) hH0 ?tkr620
      case tky620 => (intro w' hSw; clear hSw; go_simp; try with_reducible rfl)
      try simp only [Act.put, List.setIfInBounds_toArray, List.set_cons_zero, List.set_cons_succ]
      refine wpAnyH_take (i := 20) (oi := { dst := some 36, op := Op.indexAddr 44 (Operand.tmp 34) (Operand.tmp 35), type := 0, pos := "ref.go:290", after := #[{ on := 18, ground := Ground.data }, { on := 19, ground := Ground.data }, { on := 11, ground := Ground.guard }], guard := some (11, false) }) (v := ?tkv621) rfl (by kernel_rfl) (by kernel_rfl) (by kernel_rfl) (fun _ _ _ h => h) (Or.inl ⟨by rfl, ?tky621⟩) hH0 ?tkr621
      case tky621 => (intro w' hSw; clear hSw; go_simp; try with_reducible rfl)
      try simp only [Act.put, List.setIfInBounds_toArray, List.set_cons_zero, List.set_cons_succ]
      refine wpAnyH_take (i := 21) (oi := { dst := some 37, op := Op.fieldAddr 77 (Operand.tmp 36) 1, type := 0, pos := "ref.go:290", after := #[{ on := 20, ground := Ground.data }, { on := 11, ground := Ground.guard }], guard := some (11, false) }) (v := ?tkv622) rfl (by kernel_rfl) (by kernel_rfl) (by kernel_rfl) (fun _ _ _ h => h) (Or.inl ⟨by rfl, ?tky622⟩) hH0 ?tkr622
      case tky622 => (intro w' hSw; clear hSw; go_simp; try with_reducible rfl)
      try simp only [Act.put, List.setIfInBounds_toArray, List.set_cons_zero, List.set_cons_succ]
      refine wpAnyH_take (i := 22) (oi := { dst := some 38, op := Op.load 37 (Operand.tmp 37), type := 37, pos := "ref.go:290", after := #[{ on := 21, ground := Ground.data }, { on := 11, ground := Ground.guard }], guard := some (11, false) }) (v := ?tkv623) rfl (by kernel_rfl) (by kernel_rfl) (by kernel_rfl) (fun _ _ _ h => h) (Or.inl ⟨by rfl, ?tky623⟩) hH0 ?tkr623
      case tky623 => (intro w' hSw; have z0 := HFX.out _ hSw; clear hSw; go_simp; try with_reducible rfl)
      try simp only [Act.put, List.setIfInBounds_toArray, List.set_cons_zero, List.set_cons_succ]
      refine wpAnyH_take (i := 23) (oi := { dst := some 39, op := Op.convert 37 9 (Operand.tmp 38), type := 9, pos := "ref.go:290", after := #[{ on := 22, ground := Ground.data }, { on := 11, ground := Ground.guard }], guard := some (11, false) }) (v := ?tkv624) rfl (by kernel_rfl) (by kernel_rfl) (by kernel_rfl) (fun _ _ _ h => h) (Or.inl ⟨by rfl, ?tky624⟩) hH0 ?tkr624
      case tky624 => (intro w' hSw; have z0 := HFX.out _ hSw; clear hSw; go_simp; try with_reducible rfl)
      try simp only [Act.put, List.setIfInBounds_toArray, List.set_cons_zero, List.set_cons_succ]
      refine wpAnyH_take (i := 24) (oi := { dst := some 40, op := Op.binOp BinOp.neq 9 (Operand.tmp 33) (Operand.tmp 39) 9, type := 4, pos := "ref.go:290", after := #[{ on := 17, ground := Ground.data }, { on := 23, ground := Ground.data }, { on := 11, ground := Ground.guard }], guard := some (11, false) }) (v := ?tkv625) rfl (by kernel_rfl) (by kernel_rfl) (by kernel_rfl) (fun _ _ _ h => h) (Or.inl ⟨by rfl, ?tky625⟩) hH0 ?tkr625
      case tky625 => (intro w' hSw; clear hSw; go_simp; try with_reducible rfl)
      try simp only [Act.put, List.setIfInBounds_toArray, List.set_cons_zero, List.set_cons_succ]
      refine wpAnyH_take (i := 25) (oi := { dst := some 41, op := Op.pick (Operand.tmp 27) (Operand.const (Value.bool true)) (Operand.tmp 40), type := 4, pos := "ref.go:290", after := #[{ on := 11, ground := Ground.data }, { on := 24, ground := Ground.data }], guard := none }) (v := ?tkv626) rfl (by kernel_rfl) (by kernel_rfl) (by kernel_rfl) (fun _ _ _ h => h) (Or.inl ⟨by rfl, ?tky626⟩) hH0 ?tkr626
      case tky626 => (intro w' hSw; clear hSw; go_simp; try with_reducible rfl)
      try simp only [Act.put, List.setIfInBounds_toArray, List.set_cons_zero, List.set_cons_succ]
      refine wpAnyH_done (by kernel_rfl) ?_ _
      refine NoPanic.normal ?_
      have HB2 := Lib.hid (hb.out.trans (Below.mono (hH0) hb.out.size))
      go_wp2_with fail
      go_roundw
      case rel => exact ⟨k + 1, by omega, by go_num, HB2⟩
      case measure => simp [intOf]; omega
    · obtain rfl : n = k := by omega
      go_wp2_with fail
      go_ret
      exact ⟨rfl, hb⟩
end Go.Proofs.Ytekaoodagaplmaa
