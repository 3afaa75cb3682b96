/- WheelTold: the walk. -/
import Derived.Test.YtmlmpjokmbgmcaaWhTellM
import Derived.Test.YtmlmpjokmbgmcaaWhKeptM
namespace Go.Proofs.Ytmlmpjokmbgmcaa
open Go.RowKit
set_option maxRecDepth 100000 in
set_option maxHeartbeats 12800000 in
theorem wtold_walk (A : Option Addr) (n cap : Nat) (ys : List WCall) (w : World) (hys : WCalls w A n ys) :
    Calls Try.prog 13 #[.slice A n cap] w fun e w' => e = .returned (.bool true) ∧ Below w.heap.size w w' := by
  obtain ⟨i0, hi, hz0, hz1, hz2⟩ := info_parts Try.info73
  have HYS := Lib.hid hys
  have HYL := Lib.hid hys.1
  have HFEW := Lib.hid (few18_any A n cap ys w hys)
  clear hys
  go_enter Try.func13, Try.ntmps13
  go_wp2_with fail
  refine HFEW.out.mono ?_
  rintro e w0 ⟨r, rfl, hfew, hb0⟩
  cases r with
  | false =>
    go_wp2_with fail
    refine (awake18_any w0).mono ?_
    rintro e w3 ⟨rfl, hb3⟩
    go_wp2_with fail
    go_ret
    exact ⟨rfl, hb0.out.trans (hb3.out.mono hb0.out.size)⟩
  | true =>
    have HFW := Lib.hid (hfew.out rfl)
    have hnl : n ≤ 80 := by have := HFW.out.1; rw [HYL.out] at this; exact this
    clear hfew HFEW
    go_wp2_with fail
    refine (new_any 9 w0 (by omega)).mono ?_
    rintro e w1 ⟨gf, rfl, hgf, hf, hb⟩
    have hbl : opW ((flNew 9).fill 0 3584) 1 4 8 = ⟨1, 4, [], -1, 0⟩ := blank_new (by omega) fun i _ hi => by
      show (if 0 ≤ i ∧ i < 0 + 3584 then (255 : UInt8) else _) = 255
      rw [if_pos (by omega)]
    have HO1 := Lib.hid (open_wo w gf 1 4 4 rfl ((flNew 9).fill 0 3584) 0 w1 hf.out (new_ok 9 (by decide)) rfl (by omega) (by omega) (hb0.out.trans (hb.out.mono hb0.out.size)) (Nat.le_trans hb0.out.size hgf))
    have HOT := Lib.hid (OtF.new 4)
    have HGF : Hid (w.heap.size ≤ gf) := Nat.le_trans hb0.out.size hgf
    generalize (flNew 9).fill 0 3584 = f0 at *
    have HBL := Lib.hid hbl
    clear hf hb hbl hgf hb0
    go_wp2_with fail
    refine HO1.out.mono ?_
    rintro e w2 ⟨gw, rfl, hw2, hb2⟩
    have HWO : Hid (WO w (fun b => w1.heap.size ≤ b ∧ b < w2.heap.size) gw gf (opW f0 1 4 8) f0 (400 * ((0 : Nat) : Int)) w2) := by
      have := hw2.out
      exact ⟨this.wh, this.fl, this.ok.more (by simp), this.base, this.P, this.b⟩
    have HN0 : Hid ((opW f0 1 4 8).next = 0 ∧ (opW f0 1 4 8).L.length = 0) := by
      rw [HBL.out]; exact ⟨rfl, rfl⟩
    clear HO1 hb2 hw2 HBL
    go_wp2_with fail
    go_loopw [6, 30] (fun s6 i wr => ∃ (k c : Nat) (f : Fl) (P : Nat → Prop), k ≤ n ∧ c ≤ k ∧ i = .int .i64 k ∧ s6 = .int .i64 c ∧ Hid (WO w P gw gf (opW f 1 4 8) f (400 * (k : Int)) wr) ∧ Hid (OtF f 4 c) ∧ Hid ((opW f 1 4 8).next = c ∧ (opW f 1 4 8).L.length = c)) (fun _ i _ => n - (intOf i).toNat)
    case atStart => exact ⟨0, 0, f0, _, by omega, by omega, rfl, rfl, HWO, HOT, HN0⟩
    case round =>
      clear HWO HOT HN0
      obtain ⟨k, c, f, P, hk, hck, rfl, rfl, hwo, hot, hnn⟩ := hrel
      obtain ⟨wq, rfl⟩ : ∃ wq : World, wq = wr := ⟨_, rfl⟩
      by_cases hlt : k < n
      · have hkk : (k : Int) < (n : Int) := by omega
        obtain ⟨b, o, y, rfl, hbl, hym, hyk, hyg, c0, c1, c2, c3, c4⟩ := HYS.out.at_ hwo.out.b hlt
        have hy40 := HFW.out.2 y hym
        obtain ⟨yd, yN, yT, yn, yA, ym, yc, yl⟩ := y
        obtain ⟨hyrow, hymc, hycm, -, -, hyT, hyid⟩ := hyg
        dsimp only at c0 c1 c2 c3 c4 hyrow hymc hycm hyid hy40
        have hyidv : yn < 4294967296 := hyid
        go_upto_region 11 with fail
        obtain ⟨wb, hwb⟩ : ∃ wb, wq.alloc (.cells #[.int .i64 yd, .int .i64 yN, .int .i64 yT, .int .u32 (yn : Int), .slice yA ym yc] 63) = wb := ⟨_, rfl⟩
        have hba : Below wq.heap.size wq wb := by rw [← hwb]; exact (Below.refl _ _).alloc (Nat.le_refl _) _
        have hcx : wb.heap[wq.heap.size]? = some (.cells #[.int .i64 yd, .int .i64 yN, .int .i64 yT, .int .u32 (yn : Int), .slice yA ym yc] 63 (0, 0)) := by rw [← hwb]; exact heap_alloc_new _ _
        rw [hwb]
        obtain ⟨gc, hgc⟩ : ∃ gc, wq.heap.size = gc := ⟨_, rfl⟩
        have hpc : ¬ (P gc ∨ gc = gf) := by
          have h1 := hwo.out.fl.lt
          rintro (h | h)
          · have := (hwo.out.P gc h).2; omega
          · omega
        rw [hgc] at hcx ⊢
        have HGCL := Lib.hid ((Array.getElem?_eq_some_iff.1 hcx).1)
        have HCX := Lib.hid hcx
        have HPC := Lib.hid hpc
        have HWB := Lib.hid (hwo.out.below hba)
        have HROW : Hid (Row wb w.heap.size yA ym (bv yl)) := hyrow.below (hwo.out.b.trans (hba.mono hwo.out.b.size))
        have c3 : wb.cell? ⟨gc, 3, none⟩ = some (.int .u32 (yn : Int)) := by rw [cell_of_row wb gc 3 _ _ (0, 0) hcx]; rfl
        have c4 : wb.cell? ⟨gc, 4, none⟩ = some (.slice yA ym yc) := by rw [cell_of_row wb gc 4 _ _ (0, 0) hcx]; rfl
        have HAP : Hid (∀ b o, yA = some ⟨b, o, none⟩ → 0 < ym → b ≠ gf ∧ ¬ P b) := fun b o e h0 => by
          obtain ⟨b2, o2, e2, hlt2, _⟩ := hyrow.2 h0
          rw [e] at e2
          injection e2 with e2
          injection e2 with e2
          subst e2
          have h1 := HGF.out
          exact ⟨by omega, fun hp => by have := (hwo.out.P _ hp).1; omega⟩
        have HST := Lib.hid (steps_any gf f wb HWB.out.fl)
        clear hwb hba hcx hgc hpc hwo hyrow hym hyk
        go_wp2_with fail
        refine HST.out.mono ?_
        rintro e _ ⟨rfl, rfl⟩
        clear HST
        by_cases h4 : ym = 4
        · subst h4
          obtain ⟨f2, g1, g2, g3, g4⟩ := hot.out.add (id := yn) (d := yl) (by omega) (by omega) HROW.out.blen hyidv hnn.out.1 (by omega)
          have HG1 := Lib.hid g1
          have HOT2 := Lib.hid g2
          have HN2 : Hid ((opW f2 1 4 8).next = c + 1 ∧ (opW f2 1 4 8).L.length = c + 1) := ⟨g3, by rw [g4, hnn.out.2]⟩
          have HAD := Lib.hid (wadd_w w P gw gf yn w.heap.size 4 yc yA (opW f 1 4 8) yl f _ wb HWB.out (opW_ok f 1 4 (by omega) (by omega) (by omega)) (by omega) HROW.out (by omega) HAP.out HWB.out.b.size hyidv)
          rw [HG1.out] at HAD
          clear g1 g2 g3 g4 hot hnn HG1
          go_wp2_with fail
          refine HAD.out.mono ?_
          rintro e wa ⟨rfl, hwa, hfr⟩
          dsimp only at hwa ⊢
          have HWA := hwa
          have c4 : wa.cell? ⟨gc, 4, none⟩ = some (.slice yA 4 yc) := by rw [cell_of_row wa gc 4 _ _ (0, 0) ((hfr.out.block gc HGCL.out HPC.out).trans HCX.out)]; rfl
          have hc120 : (c : Int) < 120 := by omega
          clear HAD hwa hfr HWB HROW HAP HCX HGCL HPC
          have HRT := Lib.hid (recs_told _ gw gf (opW f2 1 4 8) wa HWA.out.wh (opW_L_len f2 1 4 (by omega) (by omega)).1 (opW_L_len f2 1 4 (by omega) (by omega)).2)
          have HLL := Lib.hid (opW_L_len f2 1 4 (by omega) (by omega))
          go_wp2_with fail
          refine HRT.out.mono ?_
          rintro e w8 ⟨A8, n8, c8, es8, rfl, hr8, hm8, hb8, hu8⟩
          have HES : Hid (es8.length = n8) := hr8.out.2.2.1
          have hn8 : n8 ≤ 1000 := by
            rw [← HES.out, ← List.length_map (f := RRow.pair), hm8.out]; exact HLL.out.2
          have HRN : Hid (∀ r ∈ es8, r.n ≤ 1000) := fun r hr => by
            obtain ⟨g, o, e, _, _, _, hrow⟩ := hr8.out.2.2.2 r hr
            have h1 := (HLL.out.1 r.pair (by rw [← hm8.out]; exact List.mem_map_of_mem hr)).2
            rw [← hrow.blen]; exact h1
          have HSP0 := Lib.hid (Sp.of hr8.out hu8.out hb8.out)
          clear HRT HLL hr8 hm8 hb8 hu8
          go_wp2_with fail
          go_loopw [70] (fun i wr => ∃ j : Nat, j ≤ n8 ∧ i = .int .i64 j ∧ Hid (Sp wa A8 es8 wr)) (fun i _ => n8 - (intOf i).toNat)
          case atStart => exact ⟨0, by omega, rfl, HSP0⟩
          case round =>
            clear HSP0
            obtain ⟨j, hj, rfl, hsp⟩ := hrel
            obtain ⟨wj, rfl⟩ : ∃ wj : World, wj = wr := ⟨_, rfl⟩
            by_cases hlj : j < n8
            · have hjj : (j : Int) < (n8 : Int) := by omega
              have hjl : j < es8.length := by rw [HES.out]; exact hlj
              obtain ⟨gl, g, rfl, hga, q0, q1, hql⟩ := hsp.out.rcs j hjl
              have hmr : es8[j] ∈ es8 := List.getElem_mem hjl
              have hrn := HRN.out _ hmr
              generalize es8[j] = r at *
              obtain ⟨rid, rA, rn, rc, rd⟩ := r
              dsimp only at hga q0 q1 hrn
              subst hga
              have HMR := Lib.hid hmr
              clear hmr hql
              go_upto_region 20 with fail
              have hx := heap_alloc_new wj (.cells #[.int .u32 (rid : Int), .slice (some ⟨g, 0, none⟩) rn rc] 73)
              have HSK := hsp.out.below ((Below.refl wj.heap.size wj).alloc (Nat.le_refl _) (.cells #[.int .u32 (rid : Int), .slice (some ⟨g, 0, none⟩) rn rc] 73))
              obtain ⟨wk, hwk⟩ : ∃ wk, wj.alloc (.cells #[.int .u32 (rid : Int), .slice (some ⟨g, 0, none⟩) rn rc] 73) = wk := ⟨_, rfl⟩
              rw [hwk] at hx HSK ⊢
              obtain ⟨gr, hgr⟩ : ∃ gr, wj.heap.size = gr := ⟨_, rfl⟩
              rw [hgr] at hx ⊢
              have HSK := Lib.hid HSK
              have HBX := Lib.hid hx
              have e1 : wk.cell? ⟨gr, 1, none⟩ = some (.slice (some ⟨g, 0, none⟩) rn rc) := by rw [cell_of_row wk gr 1 _ _ (0, 0) hx]; rfl
              clear hwk hgr hx q0 q1 hsp
              go_wp2_with fail
              go_loopw [77] (fun i wr => ∃ z : Nat, z ≤ rn ∧ i = .int .i64 z ∧ Hid (Sp wa (some ⟨gl, 0, none⟩) es8 wr) ∧ Hid (wr.heap[gr]? = some (.cells #[.int .u32 (rid : Int), .slice (some ⟨g, 0, none⟩) rn rc] 73 (0, 0)))) (fun i _ => rn - (intOf i).toNat)
              case atStart => exact ⟨0, by omega, rfl, HSK, HBX⟩
              case round =>
                clear HSK HBX e1
                obtain ⟨z, hz, rfl, hsz, hbx⟩ := hrel
                obtain ⟨wz, rfl⟩ : ∃ wz : World, wz = wr := ⟨_, rfl⟩
                by_cases hlz : z < rn
                · have hzz : (z : Int) < (rn : Int) := by omega
                  obtain ⟨x, b0, b1⟩ := hsz.out.byte HMR.out rfl hlz
                  have e1 : wz.cell? ⟨gr, 1, none⟩ = some (.slice (some ⟨g, 0, none⟩) rn rc) := by rw [cell_of_row wz gr 1 _ _ (0, 0) hbx.out]; rfl
                  have HXO := Lib.hid (xor_255 x)
                  have HSZ2 := Lib.hid (hsz.out.set HMR.out rfl (x ^^^ 255) (i := z))
                  have HBX2 := Lib.hid ((heap_setCell_other wz ⟨g, z, none⟩ gr (.int .u8 ((x ^^^ 255).toNat : Int)) (hsz.out.apart HMR.out rfl hbx.out)).trans hbx.out)
                  clear hsz hbx
                  go_wp2_with (rw [HXO.out])
                  go_roundw
                  case rel => exact ⟨z + 1, by omega, by go_num, HSZ2, HBX2⟩
                  case measure => simp [intOf]; omega
                · obtain rfl : z = rn := by omega
                  clear hbx
                  go_wp2_with fail
                  go_roundw
                  case rel => exact ⟨j + 1, by omega, by go_num, hsz⟩
                  case measure => simp [intOf]; omega
            · obtain rfl : j = n8 := by omega
              have HWN := Lib.hid (HWA.out.below hsp.out.b)
              clear hsp
              go_wp2_with fail
              go_roundw
              case rel => exact ⟨k + 1, c + 1, f2, _, by omega, by omega, by go_num, by go_num, by have := HWN.out; rwa [show (400 : Int) * k + 400 = 400 * ((k + 1 : Nat) : Int) by push_cast; omega] at this, HOT2, HN2⟩
              case measure => simp [intOf]; omega
        · have HR : Hid ((opW f 1 4 8).add f yn yl = (opW f 1 4 8, f, 1)) := by
            show _ = _
            unfold Wh.add
            rw [opW_size, if_neg (by rw [HROW.out.blen]; exact h4)]
          have HAD := Lib.hid (wadd_w w P gw gf yn w.heap.size ym yc yA (opW f 1 4 8) yl f _ wb HWB.out (opW_ok f 1 4 (by omega) (by omega) (by omega)) (by omega) HROW.out (by omega) HAP.out HWB.out.b.size hyidv)
          rw [HR.out] at HAD
          have HOT2 := Lib.hid hot.out
          have HN2 := Lib.hid hnn.out
          clear hot hnn HR
          go_wp2_with fail
          refine HAD.out.mono ?_
          rintro e wa ⟨rfl, hwa, hfr⟩
          dsimp only at hwa ⊢
          have HWA := hwa
          have c4 : wa.cell? ⟨gc, 4, none⟩ = some (.slice yA ym yc) := by rw [cell_of_row wa gc 4 _ _ (0, 0) ((hfr.out.block gc HGCL.out HPC.out).trans HCX.out)]; rfl
          have hn4 : ((ym : Int) == 4) = false := beq_eq_false_iff_ne.2 (by omega)
          have hn4p : ¬ (ym : Int) = 4 := by omega
          have HST := Lib.hid (steps_any gf f wa HWA.out.fl)
          have hss : (f.steps != f.steps) = false := bne_self_eq_false _
          clear HAD hwa hfr HWB HROW HAP HCX HGCL HPC h4
          go_wp2_with fail
          refine HST.out.mono ?_
          rintro e _ ⟨rfl, rfl⟩
          clear HST
          have HRT := Lib.hid (recs_told _ gw gf (opW f 1 4 8) wa HWA.out.wh (opW_L_len f 1 4 (by omega) (by omega)).1 (opW_L_len f 1 4 (by omega) (by omega)).2)
          have HLL := Lib.hid (opW_L_len f 1 4 (by omega) (by omega))
          go_wp2_with fail
          refine HRT.out.mono ?_
          rintro e w8 ⟨A8, n8, c8, es8, rfl, hr8, hm8, hb8, hu8⟩
          have HES : Hid (es8.length = n8) := hr8.out.2.2.1
          have hn8 : n8 ≤ 1000 := by
            rw [← HES.out, ← List.length_map (f := RRow.pair), hm8.out]; exact HLL.out.2
          have HRN : Hid (∀ r ∈ es8, r.n ≤ 1000) := fun r hr => by
            obtain ⟨g, o, e, _, _, _, hrow⟩ := hr8.out.2.2.2 r hr
            have h1 := (HLL.out.1 r.pair (by rw [← hm8.out]; exact List.mem_map_of_mem hr)).2
            rw [← hrow.blen]; exact h1
          have HSP0 := Lib.hid (Sp.of hr8.out hu8.out hb8.out)
          clear HRT HLL hr8 hm8 hb8 hu8
          go_wp2_with fail
          go_loopw [70] (fun i wr => ∃ j : Nat, j ≤ n8 ∧ i = .int .i64 j ∧ Hid (Sp wa A8 es8 wr)) (fun i _ => n8 - (intOf i).toNat)
          case atStart => exact ⟨0, by omega, rfl, HSP0⟩
          case round =>
            clear HSP0
            obtain ⟨j, hj, rfl, hsp⟩ := hrel
            obtain ⟨wj, rfl⟩ : ∃ wj : World, wj = wr := ⟨_, rfl⟩
            by_cases hlj : j < n8
            · have hjj : (j : Int) < (n8 : Int) := by omega
              have hjl : j < es8.length := by rw [HES.out]; exact hlj
              obtain ⟨gl, g, rfl, hga, q0, q1, hql⟩ := hsp.out.rcs j hjl
              have hmr : es8[j] ∈ es8 := List.getElem_mem hjl
              have hrn := HRN.out _ hmr
              generalize es8[j] = r at *
              obtain ⟨rid, rA, rn, rc, rd⟩ := r
              dsimp only at hga q0 q1 hrn
              subst hga
              have HMR := Lib.hid hmr
              clear hmr hql
              go_upto_region 20 with fail
              have hx := heap_alloc_new wj (.cells #[.int .u32 (rid : Int), .slice (some ⟨g, 0, none⟩) rn rc] 73)
              have HSK := hsp.out.below ((Below.refl wj.heap.size wj).alloc (Nat.le_refl _) (.cells #[.int .u32 (rid : Int), .slice (some ⟨g, 0, none⟩) rn rc] 73))
              obtain ⟨wk, hwk⟩ : ∃ wk, wj.alloc (.cells #[.int .u32 (rid : Int), .slice (some ⟨g, 0, none⟩) rn rc] 73) = wk := ⟨_, rfl⟩
              rw [hwk] at hx HSK ⊢
              obtain ⟨gr, hgr⟩ : ∃ gr, wj.heap.size = gr := ⟨_, rfl⟩
              rw [hgr] at hx ⊢
              have HSK := Lib.hid HSK
              have HBX := Lib.hid hx
              have e1 : wk.cell? ⟨gr, 1, none⟩ = some (.slice (some ⟨g, 0, none⟩) rn rc) := by rw [cell_of_row wk gr 1 _ _ (0, 0) hx]; rfl
              clear hwk hgr hx q0 q1 hsp
              go_wp2_with fail
              go_loopw [77] (fun i wr => ∃ z : Nat, z ≤ rn ∧ i = .int .i64 z ∧ Hid (Sp wa (some ⟨gl, 0, none⟩) es8 wr) ∧ Hid (wr.heap[gr]? = some (.cells #[.int .u32 (rid : Int), .slice (some ⟨g, 0, none⟩) rn rc] 73 (0, 0)))) (fun i _ => rn - (intOf i).toNat)
              case atStart => exact ⟨0, by omega, rfl, HSK, HBX⟩
              case round =>
                clear HSK HBX e1
                obtain ⟨z, hz, rfl, hsz, hbx⟩ := hrel
                obtain ⟨wz, rfl⟩ : ∃ wz : World, wz = wr := ⟨_, rfl⟩
                by_cases hlz : z < rn
                · have hzz : (z : Int) < (rn : Int) := by omega
                  obtain ⟨x, b0, b1⟩ := hsz.out.byte HMR.out rfl hlz
                  have e1 : wz.cell? ⟨gr, 1, none⟩ = some (.slice (some ⟨g, 0, none⟩) rn rc) := by rw [cell_of_row wz gr 1 _ _ (0, 0) hbx.out]; rfl
                  have HXO := Lib.hid (xor_255 x)
                  have HSZ2 := Lib.hid (hsz.out.set HMR.out rfl (x ^^^ 255) (i := z))
                  have HBX2 := Lib.hid ((heap_setCell_other wz ⟨g, z, none⟩ gr (.int .u8 ((x ^^^ 255).toNat : Int)) (hsz.out.apart HMR.out rfl hbx.out)).trans hbx.out)
                  clear hsz hbx
                  go_wp2_with (rw [HXO.out])
                  go_roundw
                  case rel => exact ⟨z + 1, by omega, by go_num, HSZ2, HBX2⟩
                  case measure => simp [intOf]; omega
                · obtain rfl : z = rn := by omega
                  clear hbx
                  go_wp2_with fail
                  go_roundw
                  case rel => exact ⟨j + 1, by omega, by go_num, hsz⟩
                  case measure => simp [intOf]; omega
            · obtain rfl : j = n8 := by omega
              have HWN := Lib.hid (HWA.out.below hsp.out.b)
              clear hsp
              go_wp2_with fail
              go_roundw
              case rel => exact ⟨k + 1, c, f, _, by omega, by omega, by go_num, by go_num, by have := HWN.out; rwa [show (400 : Int) * k + 400 = 400 * ((k + 1 : Nat) : Int) by push_cast; omega] at this, HOT2, HN2⟩
              case measure => simp [intOf]; omega
      · obtain rfl : k = n := by omega
        have HOX := Lib.hid (open_wo w gf 1 4 4 rfl f _ wq hwo.out.fl hwo.out.ok hot.out.down (by omega) (by omega) hwo.out.b hwo.out.base)
        have HLL := Lib.hid (opW_L_len f 1 4 (by omega) (by omega))
        clear hlt hot
        go_wp2_with fail
        refine HOX.out.mono ?_
        rintro e w3 ⟨gx, rfl, hx, hb3⟩
        have HW3 := Lib.hid (hwo.out.below hb3.out)
        have HR1 := Lib.hid (recs_any _ gw gf (opW f 1 4 8) w3 HW3.out.wh HLL.out.1 HLL.out.2)
        clear HOX hwo hb3
        go_wp2_with fail
        refine HR1.out.mono ?_
        rintro e w4 ⟨A4, n4, c4, es4, rfl, hr4, hm4, hb4⟩
        have HX4 := Lib.hid (hx.out.below hb4.out)
        have HR2 := Lib.hid (recs_any _ gx gf (opW f 1 4 8) w4 HX4.out.wh HLL.out.1 HLL.out.2)
        clear HR1 HW3 hx
        go_wp2_with fail
        refine HR2.out.mono ?_
        rintro e w5 ⟨A5, n5, c5, es5, rfl, hr5, hm5, hb5⟩
        have hn4 : n4 = c := by rw [← hr4.out.2.2.1, ← List.length_map (f := RRow.pair), hm4.out]; exact hnn.out.2
        have hn5 : n5 = c := by rw [← hr5.out.2.2.1, ← List.length_map (f := RRow.pair), hm5.out]; exact hnn.out.2
        subst hn4 hn5
        have HSM := Lib.hid (wsame_yes _ _ n5 c4 c5 A4 A5 es4 es5 w5 (hr4.out.below hb5.out) hr5.out (hm4.out.trans hm5.out.symm) (by omega))
        have HX5 := Lib.hid (HX4.out.below hb5.out)
        clear HR2 hr4 hm4 hb4 hr5 hm5 hb5 HX4
        go_wp2_with fail
        refine HSM.out.mono ?_
        rintro e w6 ⟨rfl, hb6⟩
        have HX6 := Lib.hid (HX5.out.below hb6.out)
        have HR3 := Lib.hid (recs_any _ gx gf (opW f 1 4 8) w6 HX6.out.wh HLL.out.1 HLL.out.2)
        clear HSM HX5 hb6
        go_wp2_with fail
        refine HR3.out.mono ?_
        rintro e w7 ⟨A7, n7, c7, es7, rfl, hr7, hm7, hb7⟩
        have hn7 : n7 = n5 := by rw [← hr7.out.2.2.1, ← List.length_map (f := RRow.pair), hm7.out]; exact hnn.out.2
        subst hn7
        have HB7 := Lib.hid (HX6.out.b.trans (hb7.out.mono HX6.out.b.size))
        clear HR3 hr7 hm7 hb7 HX6 hnn
        go_wp2_with fail
        refine (awake18_any w7).mono ?_
        rintro e w8 ⟨rfl, hb8⟩
        go_wp2_with fail
        go_ret
        exact ⟨rfl, HB7.out.trans (hb8.out.mono HB7.out.size)⟩
end Go.Proofs.Ytmlmpjokmbgmcaa
