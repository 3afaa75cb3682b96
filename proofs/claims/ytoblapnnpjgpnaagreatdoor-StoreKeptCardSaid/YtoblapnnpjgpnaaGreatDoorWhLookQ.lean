/- Wheel: look: by contract. -/
import Derived.Deep.RegionHeld3
import Derived.Deep.WholeRow
import Derived.Test.YtoblapnnpjgpnaaGreatDoorZJQ
namespace Go.Proofs.YtoblapnnpjgpnaaGreatDoor
open Go.RowKit
def LookOk (P : Nat → Prop) (gw gf : Nat) (h : Wh) (w : World) (e : Ending) (w' : World) : Prop := e = .returned (.tuple #[]) ∧ Hid (WhAt (Pn P w w') gw gf h w') ∧ Hid (Frm w w' P)
theorem WhAt.pn {P : Nat → Prop} {gw gf : Nat} {h : Wh} {w W : World} (a : WhAt P gw gf h W) (hf : gf < w.heap.size) : WhAt (Pn P w W) gw gf h W := by
  have hn : ¬ P gf := by
    obtain ⟨_, _, _, _, _, _, h2, _⟩ := a
    exact h2
  exact a.more (fun b hb => .inl hb) (by rintro (h | h); exact hn h; omega)
set_option maxRecDepth 100000 in
set_option maxHeartbeats 800000 in
theorem look_no (P : Nat → Prop) (gw gf s B cap : Nat) (A : Option Addr) (h : Wh) (b : List UInt8) (w : World) (hW : WhAt P gw gf h w) (hs1 : 1 ≤ h.size) (hs2 : h.size ≤ 16) (hl : Row w B A 256 (bv b)) (hcap : 256 ≤ cap) (hcm : cap ≤ 9223372036854775807) (hB : B ≤ w.heap.size) (hgf : gf < w.heap.size) (hp : plB h.gen (plAt b h.wide 0) = false) :
    Calls Tryz.prog 57 #[.pointer (some ⟨gw, 0, none⟩), .int .i64 (s : Int), .slice A 256 cap] w (LookOk P gw gf (h.look s b) w) := by
  have HL : Hid (h.look s b = h) := by show _ = _; unfold Wh.look; rw [if_neg (by rw [hp]; decide)]
  rw [HL.out]
  have hlt := hW.lt
  have HW := Lib.hid hW
  obtain ⟨A0, n0, c0, es0, hg0, -, -, -, -⟩ := hW
  obtain ⟨-, u1, u2, -, -, -, -, -, -⟩ := wc6 hg0
  obtain ⟨wd, hwd⟩ : ∃ wd, h.size + 13 = wd := ⟨_, rfl⟩
  have HWI := Lib.hid (wwide_any gw h.size w u2 hs2)
  have hwe : h.wide = wd := hwd
  rw [hwd] at HWI
  rw [hwe] at hp
  have hrow := hl.head (k := wd) (by omega)
  rw [bv_take, show b.take wd = plAt b wd 0 by unfold plAt; rw [Nat.zero_mul, List.drop_zero]] at hrow
  have HRC := Lib.hid (rec_no' gw B wd cap h.gen A _ w hrow (by omega) (by omega) (by omega) hcm hB hlt u1 hp)
  have hwc : (wd : Int) ≤ cap := by omega
  clear hg0 u1 u2 hwe hrow hp hl
  go_enter Tryz.func57, Tryz.ntmps57
  go_wp2_with fail
  refine HWI.out.mono ?_
  rintro e w' ⟨rfl, rfl⟩
  go_wp2_with fail
  refine HRC.out.mono ?_
  rintro e w1 ⟨rfl, hb1⟩
  go_wp2_with fail
  go_end0
  have hb2 := hb1.out.alloc hb1.out.size (.cells #[.int .u32 0, .slice none 0 0] 70)
  exact ⟨rfl, (HW.out.below hb2).pn hgf, Frm.of_below hb2⟩
set_option maxRecDepth 100000 in
set_option maxHeartbeats 12800000 in
theorem look_yes (P : Nat → Prop) (gw gf s B cap : Nat) (A : Option Addr) (h : Wh) (b : List UInt8) (w : World) (hW : WhAt P gw gf h w) (hs1 : 1 ≤ h.size) (hs2 : h.size ≤ 16) (hl : Row w B A 256 (bv b)) (hcap : 256 ≤ cap) (hcm : cap ≤ 9223372036854775807) (hB : B ≤ w.heap.size) (hgf : gf < w.heap.size) (hs : s < 8) (hm : h.L.length ≤ 500)
    (hA : ∀ g o, A = some ⟨g, o, none⟩ → ¬ P g) (hp : plB h.gen (plAt b h.wide 0) = true) :
    Calls Tryz.prog 57 #[.pointer (some ⟨gw, 0, none⟩), .int .i64 (s : Int), .slice A 256 cap] w (LookOk P gw gf (h.look s b) w) := by
  obtain ⟨i0, hi, hz0, hz1, hz2⟩ := info_parts Tryz.info70
  have HL : Hid (h.look s b = h.upto s b h.per) := by show _ = _; unfold Wh.look Wh.upto; rw [if_pos hp]
  rw [HL.out]
  have hlt := hW.lt
  have HW := Lib.hid hW
  obtain ⟨A0, n0, c0, es0, hg0, hPg, hPf, -, -⟩ := hW
  obtain ⟨-, u1, u2, -, -, -, -, -, -⟩ := wc6 hg0
  have HPG := Lib.hid hPg
  have HPF := Lib.hid hPf
  have HGF := Lib.hid hgf
  obtain ⟨hp8, hp18, hpm⟩ := per_bounds hs1 hs2
  have HWIA := Lib.hid (fun W (hc : W.cell? ⟨gw, 2, none⟩ = some (.int .i64 (h.size : Int))) => wwide_any gw h.size W hc hs2)
  have HPE := Lib.hid (fun W (hc : W.cell? ⟨gw, 2, none⟩ = some (.int .i64 (h.size : Int))) => wper_any gw h.size W hc hs1 hs2)
  obtain ⟨wd, hwd⟩ : ∃ wd, h.size + 13 = wd := ⟨_, rfl⟩
  rw [hwd] at hp8 hp18 hpm HWIA HPE
  obtain ⟨pr, hpr⟩ : ∃ pr, 256 / wd = pr := ⟨_, rfl⟩
  rw [hpr] at hp8 hp18 hpm HPE
  have hwe : h.wide = wd := hwd
  have hpe : h.per = pr := by unfold Wh.per; rw [hwd, hpr]
  have HWD := Lib.hid hwe
  have HPR := Lib.hid hpe
  have hwd14 : 14 ≤ wd := by omega
  have hwd29 : wd ≤ 29 := by omega
  rw [hwe] at hp
  have hrow := hl.head (k := wd) (by omega)
  rw [bv_take, show b.take wd = plAt b wd 0 by unfold plAt; rw [Nat.zero_mul, List.drop_zero]] at hrow
  have HRC := Lib.hid (rec_yes' gw B wd cap h.gen A _ w hrow (by omega) (by omega) (by omega) hcm hB hlt u1 hp)
  have hwc : (wd : Int) ≤ cap := by omega
  have HWI := Lib.hid (HWIA.out w u2)
  obtain ⟨bA, oA, rfl, hbA, _⟩ := hl.byteAt (k := 0) (by omega)
  have hAP := hA _ _ rfl
  have HRD : Hid (∀ W, Frm w W P → Row W B (some ⟨bA, oA, none⟩) 256 (bv b)) := fun W hW => hl.frm (fun g o e _ => by injection e with e; injection e with e; rw [← e]; exact hAP) hW hB
  obtain ⟨sp, hsp⟩ : ∃ sp, s * pr = sp := ⟨_, rfl⟩
  have hspm : sp ≤ 144 := by rw [← hsp]; exact Nat.le_trans (Nat.mul_le_mul (Nat.le_of_lt_succ hs) hp18) (by decide)
  have HSP : Hid (wrap64 ((s : Int) * (pr : Int)) = (sp : Int) ∧ sp = s * h.per) := by
    refine Lib.hid ⟨?_, by rw [hpe, hsp]⟩
    rw [show (s : Int) * (pr : Int) = (sp : Int) by rw [← hsp]; push_cast; rfl]
    exact IntWalk.wrap64_in _ ⟨by omega, by omega⟩
  have HM := Lib.hid hm
  clear hg0 u1 u2 hwe hpe hrow hp hl hA hAP hPg hPf hwd hpr hsp hm hgf
  go_enter Tryz.func57, Tryz.ntmps57
  go_wp2_with fail
  refine HWI.out.mono ?_
  rintro e w' ⟨rfl, rfl⟩
  go_wp2_with fail
  refine HRC.out.mono ?_
  rintro e w1 ⟨g1, o1, m1, c1, rfl, -, -, hb1⟩
  clear HWI HRC
  go_upto_region 2 with fail
  have hba := hb1.out.alloc hb1.out.size (.cells #[.int .u32 ((plR (plAt b wd 0)).1 : Nat), .slice (some ⟨g1, o1, none⟩) m1 c1] 70)
  have HBA := Lib.hid hba
  clear hb1 hba
  obtain ⟨wa, hwa⟩ : ∃ wa, w1.alloc (.cells #[.int .u32 ((plR (plAt b wd 0)).1 : Nat), .slice (some ⟨g1, o1, none⟩) m1 c1] 70) = wa := ⟨_, rfl⟩
  rw [hwa] at HBA ⊢
  clear hwa
  have HWA := HW.out.below HBA.out
  obtain ⟨A0, n0, c0, es0, hg0, -, -, -, -⟩ := id HWA
  obtain ⟨-, -, u2, -, u4, -, -, f4, -⟩ := wc6 hg0
  have hg9 := heap_setCell_same wa gw 4 _ _ (.int .i64 (s : Int)) hg0
  have HST : Hid (WhAt (Pn P w (wa.setCell ⟨gw, 4, none⟩ (.int .i64 (s : Int)))) gw gf (h.upto s b 0) (wa.setCell ⟨gw, 4, none⟩ (.int .i64 (s : Int)))) := by
    rw [h.upto_zero s b]
    exact (HWA.ready (s : Int)).pn HGF.out
  have HF0 : Hid (Frm w (wa.setCell ⟨gw, 4, none⟩ (.int .i64 (s : Int))) P) := (Frm.of_below (F := P) HBA.out).trans (Frm.of_grown (F := fun b => b = gw) (grown_set wa gw 4 _) (fun g h _ => by injection h with h; exact h.symm)) (fun b _ h => by rw [h]; exact HPG.out)
  have HPC := Lib.hid (HPE.out (wa.setCell ⟨gw, 4, none⟩ (.int .i64 (s : Int))) (by rw [cell_of_row _ gw 2 _ _ (0, 0) hg9]; rfl))
  clear hg0 hg9 HWA HBA
  go_wp2_with fail
  refine HPC.out.mono ?_
  rintro e w' ⟨rfl, rfl⟩
  clear HPC
  go_wp2_with fail
  generalize wa.setCell ⟨gw, 4, none⟩ (.int .i64 (s : Int)) = wz at *
  go_loopw [29] (fun i wr => ∃ k : Nat, k ≤ pr ∧ i = .int .i64 k ∧ Hid (WhAt (Pn P w wr) gw gf (h.upto s b k) wr) ∧ Hid (Frm w wr P)) (fun i _ => pr - (intOf i).toNat)
  case atStart => exact ⟨0, by omega, rfl, HST, HF0⟩
  case round =>
    clear HST HF0 u2 u4 f4
    obtain ⟨k, hk, rfl, hwh, hfr⟩ := hrel
    by_cases hlt2 : k < pr
    · obtain ⟨Av, nv, cv, es, hgw, hpw, -, hrw, hes⟩ := id hwh.out
      obtain ⟨-, u1, u2, -, -, -, -, -, -⟩ := wc6 hgw
      have HGW := Lib.hid hgw
      have HPW := Lib.hid hpw
      have HRW0 := Lib.hid hrw
      have HES := Lib.hid hes
      have hnv : nv ≤ 600 := by
        have e1 := hrw.2.2.1
        have e2 : es.length = (h.upto s b k).L.length := by rw [← hes]; simp
        have e3 : (h.upto s b k).L.length ≤ h.L.length + k := by
          show (h.L ++ recsUp h.gen h.wide b k).length ≤ _
          rw [List.length_append]
          exact Nat.add_le_add_left (recsUp_le _ _ _ _) _
        have := HM.out
        omega
      have HNV := Lib.hid hnv
      obtain ⟨ka, hka⟩ : ∃ ka, k * wd = ka := ⟨_, rfl⟩
      have hkw : (k + 1) * wd ≤ 256 := Nat.le_trans (Nat.mul_le_mul_right wd hlt2) hpm
      have hkw2 : ka + wd ≤ 256 := by rw [Nat.succ_mul, hka] at hkw; exact hkw
      have HKW := Lib.hid hkw
      have HKA : Hid (wrap64 ((k : Int) * (wd : Int)) = (ka : Int)) := by
        show _ = _
        rw [show (k : Int) * (wd : Int) = (ka : Int) by rw [← hka]; push_cast; rfl]
        exact IntWalk.wrap64_in _ ⟨by omega, by omega⟩
      have HKB : Hid (wrap64 (((k : Int) + 1) * (wd : Int)) = ((ka + wd : Nat) : Int)) := by
        show _ = _
        rw [show ((k : Int) + 1) * (wd : Int) = ((ka + wd : Nat) : Int) by rw [← hka, ← Nat.succ_mul]; push_cast; rfl]
        exact IntWalk.wrap64_in _ ⟨by omega, by omega⟩
      have HKA2 : Hid (k * wd = ka) := hka
      have hki : (k : Int) < (pr : Int) := by omega
      have i1 : (ka : Int) ≤ (ka : Int) + (wd : Int) := by omega
      have i2 : (ka : Int) + (wd : Int) ≤ cap := by omega
      have i3 : ¬ cap = ka := by omega
      have i4 : (0 : Int) ≤ (ka : Int) := by omega
      have i5 : (wd : Int) ≤ 29 := by omega
      have HPL0 := Lib.hid (plAt_row (HRD.out wr hfr.out) hkw)
      rw [hka] at HPL0
      have HWIR := Lib.hid (HWIA.out wr u2)
      have hbsz := hfr.out.size
      clear hgw hpw hrw hes hka hkw hnv
      cases hpk : plB h.gen (plAt b wd k) with
      | false =>
        have HRC := Lib.hid (rec_no' gw B wd (cap - ka) h.gen _ _ wr HPL0.out (by omega) (by omega) (by omega) (by omega) (by omega) hwh.out.lt u1 hpk)
        have HUP : Hid (({ h.upto s b k with L := h.L ++ recsUp h.gen h.wide b (k + 1) } : Wh) = h.upto s b k) := by
          show _ = _
          unfold Wh.upto
          have e : recsUp h.gen h.wide b (k + 1) = recsUp h.gen h.wide b k := by
            show recsUp h.gen h.wide b k ++ _ = _
            rw [HWD.out, hpk, if_neg (by decide), List.append_nil]
          rw [e]
        rw [← HUP.out] at hwh
        clear hpk HUP u1 u2 HGW HPW HRW0 HES HPL0
        go_wp2_with (first | rw [HKA.out] | rw [HKB.out])
        refine HWIR.out.mono ?_
        rintro e w' ⟨rfl, rfl⟩
        go_wp2_with (first | rw [HKA.out] | rw [HKB.out])
        refine HWIR.out.mono ?_
        rintro e w' ⟨rfl, rfl⟩
        clear HWIR
        go_wp2_with (first | rw [HKA.out] | rw [HKB.out])
        refine HRC.out.mono ?_
        rintro e wq ⟨rfl, hbq⟩
        clear HRC
        go_upto_region 10 with fail
        have hb5 := hbq.out.alloc hbq.out.size (.cells #[.int .u32 0, .slice none 0 0] 70)
        obtain ⟨W5, hW5⟩ : ∃ W5, wq.alloc (.cells #[.int .u32 0, .slice none 0 0] 70) = W5 := ⟨_, rfl⟩
        rw [hW5] at hb5 ⊢
        have HFR : Hid (Frm w W5 P) := hfr.out.trans (Frm.of_below (F := fun _ => False) hb5) (fun _ _ h => h.elim)
        have HWH : Hid (WhAt (Pn P w W5) gw gf { h.upto s b k with L := h.L ++ recsUp h.gen h.wide b (k + 1) } W5) := (hwh.out.below hb5).more (fun x hx => by
          rcases hx with hx | hx
          · exact .inl hx
          · exact .inr ⟨hx.1, Nat.lt_of_lt_of_le hx.2 hb5.size⟩) (by
          rintro (hx | hx)
          · exact HPF.out hx
          · have := HGF.out; omega)
        clear hW5 hb5 hbq hwh hfr
        have HPL := Lib.hid (plAt_row (HRD.out W5 HFR.out) HKW.out)
        obtain ⟨A5, n5, c5, es5, hg5, -, -, -, -⟩ := HWH.out
        obtain ⟨-, -, u2, -, -, u5, -, -, f5⟩ := wc6 hg5
        rw [HKA2.out] at HPL
        clear hg5
        cases hff : allFF (plAt b wd k) with
        | true =>
          have HB5 := Lib.hid (wblank_any _ wd (cap - ka) _ _ W5 HPL.out (by omega))
          rw [hff] at HB5
          have HUP : Hid ({ h.upto s b k with L := h.L ++ recsUp h.gen h.wide b (k + 1) } = h.upto s b (k + 1)) := by
            show _ = _
            have e : nextUp h.wide (s * h.per) h.next b (k + 1) = nextUp h.wide (s * h.per) h.next b k := by
              show (if allFF (plAt b h.wide k) then _ else _) = _
              rw [HWD.out, hff, if_pos rfl]
            unfold Wh.upto
            rw [e]
          rw [HUP.out] at HWH
          clear hff HUP HPL u2 u5 f5
          go_wp2_with fail
          refine HB5.out.mono ?_
          rintro e w' ⟨rfl, rfl⟩
          clear HB5
          go_wp2_with fail
          go_roundw
          case rel => exact ⟨k + 1, by omega, by go_num, HWH, HFR⟩
          case measure => simp [intOf]; omega
        | false =>
          have HB5 := Lib.hid (wblank_any _ wd (cap - ka) _ _ W5 HPL.out (by omega))
          rw [hff] at HB5
          have HN5 := Lib.hid (HWH.out.next (s * h.per + k + 1) ((sp : Int) + (k : Int) + 1) (by have := HSP.out.2; omega))
          have HUP : Hid ({ ({ h.upto s b k with L := h.L ++ recsUp h.gen h.wide b (k + 1) } : Wh) with next := s * h.per + k + 1 } = h.upto s b (k + 1)) := by
            show _ = _
            unfold Wh.upto
            have e : nextUp h.wide (s * h.per) h.next b (k + 1) = s * h.per + k + 1 := by
              show (if allFF (plAt b h.wide k) then _ else _) = _
              rw [HWD.out, hff, if_neg (by decide)]
            rw [e]
          rw [HUP.out] at HN5
          have HP5 := Lib.hid (HPE.out W5 u2)
          have HFR6 : Hid (Frm w (W5.setCell ⟨gw, 5, none⟩ (.int .i64 ((sp : Int) + (k : Int) + 1))) P) := HFR.out.trans (Frm.of_grown (F := fun b => b = gw) (grown_set W5 gw 5 _) (fun g h _ => by injection h with h; exact h.symm)) (fun b _ h => by rw [h]; exact HPG.out)
          have HN6 : Hid (WhAt (Pn P w (W5.setCell ⟨gw, 5, none⟩ (.int .i64 ((sp : Int) + (k : Int) + 1)))) gw gf (h.upto s b (k + 1)) (W5.setCell ⟨gw, 5, none⟩ (.int .i64 ((sp : Int) + (k : Int) + 1)))) := Lib.hid (by
            have e : (W5.setCell ⟨gw, 5, none⟩ (.int .i64 ((sp : Int) + (k : Int) + 1))).heap.size = W5.heap.size := by simp [World.setCell]
            unfold Pn
            rw [e]; exact HN5.out)
          clear hff HUP HPL HN5 HWH HFR
          go_wp2_with fail
          refine HB5.out.mono ?_
          rintro e w' ⟨rfl, rfl⟩
          clear HB5
          go_wp2_with fail
          refine HP5.out.mono ?_
          rintro e w' ⟨rfl, rfl⟩
          clear HP5
          go_wp2_with (rw [HSP.out.1])
          go_roundw
          case rel => exact ⟨k + 1, by omega, by go_num, HN6, HFR6⟩
          case measure => simp [intOf]; omega
      | true =>
        have HRC := Lib.hid (rec_yes' gw B wd (cap - ka) h.gen _ _ wr HPL0.out (by omega) (by omega) (by omega) (by omega) (by omega) hwh.out.lt u1 hpk)
        have HPB := Lib.hid hpk
        clear hpk u1 u2 HPL0
        go_wp2_with (first | rw [HKA.out] | rw [HKB.out])
        refine HWIR.out.mono ?_
        rintro e w' ⟨rfl, rfl⟩
        go_wp2_with (first | rw [HKA.out] | rw [HKB.out])
        refine HWIR.out.mono ?_
        rintro e w' ⟨rfl, rfl⟩
        clear HWIR
        go_wp2_with (first | rw [HKA.out] | rw [HKB.out])
        refine HRC.out.mono ?_
        rintro e wq ⟨rg, ro, rm, rc, rfl, hrm, hrr, hbq⟩
        clear HRC
        obtain ⟨rid, hrid⟩ : ∃ rid, (plR (plAt b wd k)).1 = rid := ⟨_, rfl⟩
        obtain ⟨rd, hrd⟩ : ∃ rd, (plR (plAt b wd k)).2 = rd := ⟨_, rfl⟩
        rw [hrid]
        rw [hrd] at hrr
        have HRP : Hid (plR (plAt b wd k) = (rid, rd)) := by show _ = _; rw [← hrid, ← hrd]
        go_upto_region 9 with fail
        have hb5 := hbq.out.alloc hbq.out.size (.cells #[.int .u32 (rid : Int), .slice (some ⟨rg, ro, none⟩) rm rc] 70)
        have HBX := Lib.hid (heap_alloc_new wq (.cells #[.int .u32 (rid : Int), .slice (some ⟨rg, ro, none⟩) rm rc] 70))
        have hgs := (hrr.out.2.2.alloc (Nat.le_refl _) (.cells #[.int .u32 (rid : Int), .slice (some ⟨rg, ro, none⟩) rm rc] 70)).more (B' := (wq.alloc (.cells #[.int .u32 (rid : Int), .slice (some ⟨rg, ro, none⟩) rm rc] 70)).heap.size) (by simp)
        have hg12 := And.intro hrr.out.1 hrr.out.2.1
        obtain ⟨gr, hgr⟩ : ∃ gr, wq.heap.size = gr := ⟨_, rfl⟩
        rw [hgr] at HBX ⊢
        have hws : wr.heap.size ≤ gr := by rw [← hgr]; exact hbq.out.size
        have hrg2 : rg < gr := by rw [← hgr]; exact hg12.2
        obtain ⟨wb, hwb⟩ : ∃ wb, wq.alloc (.cells #[.int .u32 (rid : Int), .slice (some ⟨rg, ro, none⟩) rm rc] 70) = wb := ⟨_, rfl⟩
        rw [hwb] at hb5 HBX hgs ⊢
        have hgrl : gr < wb.heap.size := (Array.getElem?_eq_some_iff.1 HBX.out).1
        have HGWL := hwh.out.lt
        have hvl : ∀ g, (Value.slice Av nv cv).ownBlock = some g → g < wr.heap.size := fun g hg => (HRW0.out.1.lt g hg).2
        have HRN : Hid (RNew w gw (.slice Av nv cv) rg ro rm rd wb) := ⟨by omega, by omega, by omega, fun e => by have := hvl rg e; omega, hgs⟩
        have HNO : Hid ((Value.slice Av nv cv).ownBlock ≠ some gr) := fun e => by have := hvl gr e; omega
        have HNG : Hid (gr ≠ gw) := by show gr ≠ gw; omega
        have SRB : Hid (SR wb gw gr (.slice Av nv cv) (recV rid rg ro rm rc) wb) := ⟨Frm.refl _ _, HBX.out⟩
        have HWB : Hid (wr.heap.size ≤ wb.heap.size) := hb5.size
        have HWA : Hid (w.heap.size ≤ wb.heap.size) := by show _ ≤ _; omega
        have HRW : Hid (RecW (fun b => Pn P w wr b ∧ b ≠ gw) wb (.slice Av nv cv) nv es) := HRW0.out.below hb5
        have HGWB := HGW.out
        have HGW : Hid (wb.heap[gw]? = some (.cells (wcells gf (h.upto s b k) (.slice Av nv cv)) 122 (0, 0))) := (hb5.block gw HGWL).trans HGWB
        have LGW : Hid (gw < wb.heap.size) := by show _ < _; omega
        have HFB : Hid (Frm w wb P) := hfr.out.trans (Frm.of_below (F := fun _ => False) hb5) (fun _ _ h => h.elim)
        clear hwb hgr hb5 hbq hwh hfr hgs hg12 hrr hrm hrid hrd HRW0 HGWB HBX hvl hws hrg2 hgrl HGWL
        refine wp_region_noPanic ?_
        refine wp_region_held_drew (S := (fun W => SR wb gw gr (.slice Av nv cv) (recV rid rg ro rm rc) W)) (by kernel_rfl) (SRB.out.below (Below.refl _ _).drew) (fun hH0 => ?_)
        have hH0 : SR wb gw gr (.slice Av nv cv) (recV rid rg ro rm rc) wb.drew := hH0
        have HGWd := Lib.hid (show wb.drew.heap[gw]? = _ from HGW.out)
        have LGWd := Lib.hid (show gw < wb.drew.heap.size from LGW.out)
        have HRWd := Lib.hid (HRW.out.below ((Below.refl wb.heap.size wb).drew))
        generalize wb.drew = wd900 at *
        refine wpAnyH_take (i := 0) (oi := { dst := some 50, op := Op.move (Operand.tmp 0), type := 59, pos := "wheel.go:63", after := #[], guard := none }) (v := ?tkv901) rfl (by kernel_rfl) (by kernel_rfl) (by kernel_rfl) (fun _ _ _ h => h) (Or.inl ⟨by rfl, ?tky901⟩) hH0 ?tkr901
        case tky901 => (intro w' hSw; clear hSw; go_simp; try with_reducible rfl)
        try simp only [Act.put, List.setIfInBounds_toArray, List.set_cons_zero, List.set_cons_succ]
        refine wpAnyH_take (i := 1) (oi := { dst := some 51, op := Op.move (Operand.tmp 0), type := 59, pos := "wheel.go:63", after := #[], guard := none }) (v := ?tkv902) rfl (by kernel_rfl) (by kernel_rfl) (by kernel_rfl) (fun _ _ _ h => h) (Or.inl ⟨by rfl, ?tky902⟩) hH0 ?tkr902
        case tky902 => (intro w' hSw; clear hSw; go_simp; try with_reducible rfl)
        try simp only [Act.put, List.setIfInBounds_toArray, List.set_cons_zero, List.set_cons_succ]
        refine wpAnyH_take (i := 2) (oi := { dst := some 52, op := Op.nilCheck (Operand.tmp 51), type := 0, pos := "wheel.go:63", after := #[{ on := 1, ground := Ground.data }], guard := none }) (v := ?tkv903) rfl (by kernel_rfl) (by kernel_rfl) (by kernel_rfl) (fun _ _ _ h => h) (Or.inl ⟨by rfl, ?tky903⟩) hH0 ?tkr903
        case tky903 => (intro w' hSw; clear hSw; go_simp; try with_reducible rfl)
        try simp only [Act.put, List.setIfInBounds_toArray, List.set_cons_zero, List.set_cons_succ]
        refine wpAnyH_take (i := 3) (oi := { dst := some 53, op := Op.fieldAddr 122 (Operand.tmp 52) 3, type := 0, pos := "wheel.go:63", after := #[{ on := 2, ground := Ground.data }], guard := none }) (v := ?tkv904) rfl (by kernel_rfl) (by kernel_rfl) (by kernel_rfl) (fun _ _ _ h => h) (Or.inl ⟨by rfl, ?tky904⟩) hH0 ?tkr904
        case tky904 => (intro w' hSw; clear hSw; go_simp; try with_reducible rfl)
        try simp only [Act.put, List.setIfInBounds_toArray, List.set_cons_zero, List.set_cons_succ]
        refine wpAnyH_take (i := 5) (oi := { dst := some 55, op := Op.load 70 (Operand.tmp 10), type := 70, pos := "wheel.go:63", after := #[], guard := none }) (v := .agg #[.int .u32 (rid : Int), .slice (some ⟨rg, ro, none⟩) rm rc]) rfl (by kernel_rfl) (by kernel_rfl) (by kernel_rfl) (fun _ _ _ h => h) (wyields_row (by rfl) _ _ rfl gr rfl _ _ _ _ (fun W hW => hW.box) Tryz.underlying70 rfl (by kernel_rfl)) hH0 ?tkr905
        try simp only [Act.put, List.setIfInBounds_toArray, List.set_cons_zero, List.set_cons_succ]
        refine wpAnyH_ready (rs := [4, 6]) (by kernel_rfl) (by simp) ?_
        refine AllReadyH.cons (o := { dst := some 54, op := Op.load 67 (Operand.tmp 53), type := 67, pos := "wheel.go:63", after := #[{ on := 3, ground := Ground.data }], guard := none }) rfl (fun K hK => ?_) (AllReadyH.cons (o := { dst := some 56, op := Op.buildSlice 67 1 #[(0, Operand.tmp 55)], type := 67, pos := "wheel.go:63", after := #[{ on := 5, ground := Ground.data }], guard := none }) rfl (fun K hK => ?_) AllReadyH.nil)
        · have hc906 := (wc6 HGWd.out).2.2.2.1
          go_simp
          clear hc906
          have hS906 : SR wb gw gr (.slice Av nv cv) (recV rid rg ro rm rc) wd900 := hH0
          refine hK.out _ _ hS906 (fun hH906 => ?_)
          have hH906 : SR wb gw gr (.slice Av nv cv) (recV rid rg ro rm rc) wd900 := hH906
          clear hK K hS906
          try simp only [Act.put, List.setIfInBounds_toArray, List.set_cons_zero, List.set_cons_succ]
          refine wpAnyH_ready (rs := [6]) (by kernel_rfl) (by simp) ?_
          refine AllReadyH.cons (o := { dst := some 56, op := Op.buildSlice 67 1 #[(0, Operand.tmp 55)], type := 67, pos := "wheel.go:63", after := #[{ on := 5, ground := Ground.data }], guard := none }) rfl (fun K hK => ?_) AllReadyH.nil
          go_simp
          have hb907 : Below wd900.heap.size wd900 (wd900.alloc (.cells (recV rid rg ro rm rc) 70)) := (Below.refl _ _).alloc (Nat.le_refl _) _
          have AX907 : Hid ((wd900.alloc (.cells (recV rid rg ro rm rc) 70)).heap[wd900.heap.size]? = some (.cells (recV rid rg ro rm rc) 70 (0, 0))) := Lib.hid (heap_alloc_new _ _)
          have AL907 : Hid (wd900.heap.size < (wd900.alloc (.cells (recV rid rg ro rm rc) 70)).heap.size) := Lib.hid (by simp)
          unfold recV at hb907 AX907 AL907
          generalize (wd900.alloc (.cells #[.int .u32 (rid : Int), .slice (some ⟨rg, ro, none⟩) rm rc] 70)) = wn907 at *
          have HGWd_907 := Lib.hid ((hb907.block gw LGWd.out).trans HGWd.out)
          have LGWd_907 := Lib.hid (Nat.lt_of_lt_of_le LGWd.out hb907.size)
          have HRWd_907 := Lib.hid (HRWd.out.below hb907)
          have hS907 : SR wb gw gr (.slice Av nv cv) (recV rid rg ro rm rc) wn907 := ((hH906).below hb907)
          refine hK.out _ _ hS907 (fun hH907 => ?_)
          have hH907 : SR wb gw gr (.slice Av nv cv) (recV rid rg ro rm rc) wn907 := hH907
          clear hK K hS907
          try simp only [Act.put, List.setIfInBounds_toArray, List.set_cons_zero, List.set_cons_succ]
          refine wpAnyH_ready (rs := [7]) (by kernel_rfl) (by simp) ?_
          refine AllReadyH.cons (o := { dst := some 57, op := Op.call { callee := Callee.builtin Builtin.append, args := #[Operand.tmp 54, Operand.tmp 56], argTypes := #[67, 67] }, type := 67, pos := "wheel.go:63", after := #[{ on := 4, ground := Ground.data }, { on := 6, ground := Ground.data }], guard := none }) rfl (fun K hK => ?_) AllReadyH.nil
          rw [if_pos (by rfl)]
          refine wp_app2 (.tmp 54) (.tmp 56) 67 rfl 0 70 i0 _ 32 Tryz.underlying67 hi hz0 hz1 hz2 rfl _ nv _ rfl HRWd_907.out.1 _ 1 _ _ 70 rfl AX907.out rfl rfl (by have := HNV.out; unfold maxLen; omega) (by have := HNV.out; omega) (Nat.zero_le _) ?_
          intro v4 w4 hown4 hg4 hat4
          obtain ⟨A4, c4, rfl⟩ := own2_form hown4
          have HAPP := Lib.hid (wh_grow HGWd_907.out HPW.out HPF.out HGF.out (Nat.le_trans HWB.out (hH907).fr.size) (Nat.le_trans HWA.out (hH907).fr.size) HRWd_907.out HES.out (HRN.out.sr (hH907)) hown4 hg4 hat4)
          have hS908 : SR wb gw gr (.slice Av nv cv) (recV rid rg ro rm rc) w4 := ((hH907).app hg4 HNO.out)
          refine hK.out _ _ hS908 (fun hH908 => ?_)
          have hH908 : SR wb gw gr (.slice Av nv cv) (recV rid rg ro rm rc) w4 := hH908
          clear hK K hS908
          try simp only [Act.put, List.setIfInBounds_toArray, List.set_cons_zero, List.set_cons_succ]
          refine wpAnyH_take (i := 8) (oi := { dst := some 58, op := Op.nilCheck (Operand.tmp 50), type := 0, pos := "wheel.go:63", after := #[{ on := 0, ground := Ground.data }, { on := 0, ground := Ground.phase }, { on := 1, ground := Ground.phase }, { on := 2, ground := Ground.phase }, { on := 3, ground := Ground.phase }, { on := 4, ground := Ground.phase }, { on := 5, ground := Ground.phase }, { on := 6, ground := Ground.phase }, { on := 7, ground := Ground.phase }], guard := none }) (v := ?tkv909) rfl (by kernel_rfl) (by kernel_rfl) (by kernel_rfl) (fun _ _ _ h => h) (Or.inl ⟨by rfl, ?tky909⟩) hH908 ?tkr909
          case tky909 => (intro w' hSw; clear hSw; go_simp; try with_reducible rfl)
          try simp only [Act.put, List.setIfInBounds_toArray, List.set_cons_zero, List.set_cons_succ]
          refine wpAnyH_take (i := 9) (oi := { dst := some 59, op := Op.fieldAddr 122 (Operand.tmp 58) 3, type := 0, pos := "wheel.go:63", after := #[{ on := 8, ground := Ground.data }, { on := 0, ground := Ground.phase }, { on := 1, ground := Ground.phase }, { on := 2, ground := Ground.phase }, { on := 3, ground := Ground.phase }, { on := 4, ground := Ground.phase }, { on := 5, ground := Ground.phase }, { on := 6, ground := Ground.phase }, { on := 7, ground := Ground.phase }], guard := none }) (v := ?tkv910) rfl (by kernel_rfl) (by kernel_rfl) (by kernel_rfl) (fun _ _ _ h => h) (Or.inl ⟨by rfl, ?tky910⟩) hH908 ?tkr910
          case tky910 => (intro w' hSw; clear hSw; go_simp; try with_reducible rfl)
          try simp only [Act.put, List.setIfInBounds_toArray, List.set_cons_zero, List.set_cons_succ]
          refine wpAnyH_ready (rs := [10]) (by kernel_rfl) (by simp) ?_
          refine AllReadyH.cons (o := { dst := none, op := Op.store 67 (Operand.tmp 59) (Operand.tmp 57), type := 0, pos := "wheel.go:63", after := #[{ on := 9, ground := Ground.data }, { on := 7, ground := Ground.data }, { on := 7, ground := Ground.chain }, { on := 0, ground := Ground.phase }, { on := 1, ground := Ground.phase }, { on := 2, ground := Ground.phase }, { on := 3, ground := Ground.phase }, { on := 4, ground := Ground.phase }, { on := 5, ground := Ground.phase }, { on := 6, ground := Ground.phase }, { on := 7, ground := Ground.phase }], guard := none }) rfl (fun K hK => ?_) AllReadyH.nil
          have q911 := wc6 HAPP.out.1
          have y911 := q911.2.2.2.1
          have z911 := q911.2.2.2.2.2.2.1
          go_simp
          clear q911 y911 z911
          have hS911 : SR wb gw gr (.slice Av nv cv) (recV rid rg ro rm rc) (w4.setCell ⟨gw, 3, none⟩ (.slice A4 (nv + 1) c4)) := ((hH908).set HNG.out 3 (.slice A4 (nv + 1) c4))
          refine hK.out _ _ hS911 (fun hH911 => ?_)
          have hH911 : SR wb gw gr (.slice Av nv cv) (recV rid rg ro rm rc) (w4.setCell ⟨gw, 3, none⟩ (.slice A4 (nv + 1) c4)) := hH911
          clear hK K hS911
          refine wpAnyH_done (by kernel_rfl) ?_ _
          refine NoPanic.normal ?_
          have HSE := Lib.hid (hH911)
          have HWH : Hid (WhAt (Pn P w (w4.setCell ⟨gw, 3, none⟩ (.slice A4 (nv + 1) c4))) gw gf { h.upto s b k with L := h.L ++ recsUp h.gen h.wide b (k + 1) } (w4.setCell ⟨gw, 3, none⟩ (.slice A4 (nv + 1) c4))) := Lib.hid (by
            have e : (w4.setCell ⟨gw, 3, none⟩ (.slice A4 (nv + 1) c4)).heap.size = w4.heap.size := by simp [World.setCell]
            have e2 : h.L ++ recsUp h.gen h.wide b (k + 1) = (h.upto s b k).L ++ [(rid, rd)] := by
              show _ = (h.L ++ recsUp h.gen h.wide b k) ++ [(rid, rd)]
              rw [List.append_assoc]
              show h.L ++ (recsUp h.gen h.wide b k ++ _) = _
              rw [HWD.out, if_pos HPB.out, HRP.out]
            unfold Pn
            rw [e, e2]; exact HAPP.out.2)
          have HFR : Hid (Frm w (w4.setCell ⟨gw, 3, none⟩ (.slice A4 (nv + 1) c4)) P) := HFB.out.trans HSE.out.fr (fun b hb h => by
            rcases h with h | h
            · rw [h]; exact HPG.out
            · rcases (HRW.out.2.1 b h).1 with h1 | h1
              · exact h1
              · omega)
          clear HAPP HSE
          obtain ⟨W5, hW5⟩ : ∃ W5, w4.setCell ⟨gw, 3, none⟩ (.slice A4 (nv + 1) c4) = W5 := ⟨_, rfl⟩
          rw [hW5] at HWH HFR ⊢
          have HPL := Lib.hid (plAt_row (HRD.out W5 HFR.out) HKW.out)
          obtain ⟨A5, n5, c5, es5, hg5, -, -, -, -⟩ := HWH.out
          obtain ⟨-, -, u2, -, -, u5, -, -, f5⟩ := wc6 hg5
          rw [HKA2.out] at HPL
          clear hg5
          cases hff : allFF (plAt b wd k) with
          | true =>
            have HB5 := Lib.hid (wblank_any _ wd (cap - ka) _ _ W5 HPL.out (by omega))
            rw [hff] at HB5
            have HUP : Hid ({ h.upto s b k with L := h.L ++ recsUp h.gen h.wide b (k + 1) } = h.upto s b (k + 1)) := by
              show _ = _
              have e : nextUp h.wide (s * h.per) h.next b (k + 1) = nextUp h.wide (s * h.per) h.next b k := by
                show (if allFF (plAt b h.wide k) then _ else _) = _
                rw [HWD.out, hff, if_pos rfl]
              unfold Wh.upto
              rw [e]
            rw [HUP.out] at HWH
            clear hff HUP HPL u2 u5 f5
            go_wp2_with fail
            refine HB5.out.mono ?_
            rintro e w' ⟨rfl, rfl⟩
            clear HB5
            go_wp2_with fail
            go_roundw
            case rel => exact ⟨k + 1, by omega, by go_num, HWH, HFR⟩
            case measure => simp [intOf]; omega
          | false =>
            have HB5 := Lib.hid (wblank_any _ wd (cap - ka) _ _ W5 HPL.out (by omega))
            rw [hff] at HB5
            have HN5 := Lib.hid (HWH.out.next (s * h.per + k + 1) ((sp : Int) + (k : Int) + 1) (by have := HSP.out.2; omega))
            have HUP : Hid ({ ({ h.upto s b k with L := h.L ++ recsUp h.gen h.wide b (k + 1) } : Wh) with next := s * h.per + k + 1 } = h.upto s b (k + 1)) := by
              show _ = _
              unfold Wh.upto
              have e : nextUp h.wide (s * h.per) h.next b (k + 1) = s * h.per + k + 1 := by
                show (if allFF (plAt b h.wide k) then _ else _) = _
                rw [HWD.out, hff, if_neg (by decide)]
              rw [e]
            rw [HUP.out] at HN5
            have HP5 := Lib.hid (HPE.out W5 u2)
            have HFR6 : Hid (Frm w (W5.setCell ⟨gw, 5, none⟩ (.int .i64 ((sp : Int) + (k : Int) + 1))) P) := HFR.out.trans (Frm.of_grown (F := fun b => b = gw) (grown_set W5 gw 5 _) (fun g h _ => by injection h with h; exact h.symm)) (fun b _ h => by rw [h]; exact HPG.out)
            have HN6 : Hid (WhAt (Pn P w (W5.setCell ⟨gw, 5, none⟩ (.int .i64 ((sp : Int) + (k : Int) + 1)))) gw gf (h.upto s b (k + 1)) (W5.setCell ⟨gw, 5, none⟩ (.int .i64 ((sp : Int) + (k : Int) + 1)))) := Lib.hid (by
              have e : (W5.setCell ⟨gw, 5, none⟩ (.int .i64 ((sp : Int) + (k : Int) + 1))).heap.size = W5.heap.size := by simp [World.setCell]
              unfold Pn
              rw [e]; exact HN5.out)
            clear hff HUP HPL HN5 HWH HFR
            go_wp2_with fail
            refine HB5.out.mono ?_
            rintro e w' ⟨rfl, rfl⟩
            clear HB5
            go_wp2_with fail
            refine HP5.out.mono ?_
            rintro e w' ⟨rfl, rfl⟩
            clear HP5
            go_wp2_with (rw [HSP.out.1])
            go_roundw
            case rel => exact ⟨k + 1, by omega, by go_num, HN6, HFR6⟩
            case measure => simp [intOf]; omega
        · go_simp
          have hb912 : Below wd900.heap.size wd900 (wd900.alloc (.cells (recV rid rg ro rm rc) 70)) := (Below.refl _ _).alloc (Nat.le_refl _) _
          have AX912 : Hid ((wd900.alloc (.cells (recV rid rg ro rm rc) 70)).heap[wd900.heap.size]? = some (.cells (recV rid rg ro rm rc) 70 (0, 0))) := Lib.hid (heap_alloc_new _ _)
          have AL912 : Hid (wd900.heap.size < (wd900.alloc (.cells (recV rid rg ro rm rc) 70)).heap.size) := Lib.hid (by simp)
          unfold recV at hb912 AX912 AL912
          generalize (wd900.alloc (.cells #[.int .u32 (rid : Int), .slice (some ⟨rg, ro, none⟩) rm rc] 70)) = wn912 at *
          have HGWd_912 := Lib.hid ((hb912.block gw LGWd.out).trans HGWd.out)
          have LGWd_912 := Lib.hid (Nat.lt_of_lt_of_le LGWd.out hb912.size)
          have HRWd_912 := Lib.hid (HRWd.out.below hb912)
          have hS912 : SR wb gw gr (.slice Av nv cv) (recV rid rg ro rm rc) wn912 := ((hH0).below hb912)
          refine hK.out _ _ hS912 (fun hH912 => ?_)
          have hH912 : SR wb gw gr (.slice Av nv cv) (recV rid rg ro rm rc) wn912 := hH912
          clear hK K hS912
          try simp only [Act.put, List.setIfInBounds_toArray, List.set_cons_zero, List.set_cons_succ]
          refine wpAnyH_ready (rs := [4]) (by kernel_rfl) (by simp) ?_
          refine AllReadyH.cons (o := { dst := some 54, op := Op.load 67 (Operand.tmp 53), type := 67, pos := "wheel.go:63", after := #[{ on := 3, ground := Ground.data }], guard := none }) rfl (fun K hK => ?_) AllReadyH.nil
          have hc913 := (wc6 HGWd_912.out).2.2.2.1
          go_simp
          clear hc913
          have hS913 : SR wb gw gr (.slice Av nv cv) (recV rid rg ro rm rc) wn912 := hH912
          refine hK.out _ _ hS913 (fun hH913 => ?_)
          have hH913 : SR wb gw gr (.slice Av nv cv) (recV rid rg ro rm rc) wn912 := hH913
          clear hK K hS913
          try simp only [Act.put, List.setIfInBounds_toArray, List.set_cons_zero, List.set_cons_succ]
          refine wpAnyH_ready (rs := [7]) (by kernel_rfl) (by simp) ?_
          refine AllReadyH.cons (o := { dst := some 57, op := Op.call { callee := Callee.builtin Builtin.append, args := #[Operand.tmp 54, Operand.tmp 56], argTypes := #[67, 67] }, type := 67, pos := "wheel.go:63", after := #[{ on := 4, ground := Ground.data }, { on := 6, ground := Ground.data }], guard := none }) rfl (fun K hK => ?_) AllReadyH.nil
          rw [if_pos (by rfl)]
          refine wp_app2 (.tmp 54) (.tmp 56) 67 rfl 0 70 i0 _ 32 Tryz.underlying67 hi hz0 hz1 hz2 rfl _ nv _ rfl HRWd_912.out.1 _ 1 _ _ 70 rfl AX912.out rfl rfl (by have := HNV.out; unfold maxLen; omega) (by have := HNV.out; omega) (Nat.zero_le _) ?_
          intro v4 w4 hown4 hg4 hat4
          obtain ⟨A4, c4, rfl⟩ := own2_form hown4
          have HAPP := Lib.hid (wh_grow HGWd_912.out HPW.out HPF.out HGF.out (Nat.le_trans HWB.out (hH913).fr.size) (Nat.le_trans HWA.out (hH913).fr.size) HRWd_912.out HES.out (HRN.out.sr (hH913)) hown4 hg4 hat4)
          have hS914 : SR wb gw gr (.slice Av nv cv) (recV rid rg ro rm rc) w4 := ((hH913).app hg4 HNO.out)
          refine hK.out _ _ hS914 (fun hH914 => ?_)
          have hH914 : SR wb gw gr (.slice Av nv cv) (recV rid rg ro rm rc) w4 := hH914
          clear hK K hS914
          try simp only [Act.put, List.setIfInBounds_toArray, List.set_cons_zero, List.set_cons_succ]
          refine wpAnyH_take (i := 8) (oi := { dst := some 58, op := Op.nilCheck (Operand.tmp 50), type := 0, pos := "wheel.go:63", after := #[{ on := 0, ground := Ground.data }, { on := 0, ground := Ground.phase }, { on := 1, ground := Ground.phase }, { on := 2, ground := Ground.phase }, { on := 3, ground := Ground.phase }, { on := 4, ground := Ground.phase }, { on := 5, ground := Ground.phase }, { on := 6, ground := Ground.phase }, { on := 7, ground := Ground.phase }], guard := none }) (v := ?tkv915) rfl (by kernel_rfl) (by kernel_rfl) (by kernel_rfl) (fun _ _ _ h => h) (Or.inl ⟨by rfl, ?tky915⟩) hH914 ?tkr915
          case tky915 => (intro w' hSw; clear hSw; go_simp; try with_reducible rfl)
          try simp only [Act.put, List.setIfInBounds_toArray, List.set_cons_zero, List.set_cons_succ]
          refine wpAnyH_take (i := 9) (oi := { dst := some 59, op := Op.fieldAddr 122 (Operand.tmp 58) 3, type := 0, pos := "wheel.go:63", after := #[{ on := 8, ground := Ground.data }, { on := 0, ground := Ground.phase }, { on := 1, ground := Ground.phase }, { on := 2, ground := Ground.phase }, { on := 3, ground := Ground.phase }, { on := 4, ground := Ground.phase }, { on := 5, ground := Ground.phase }, { on := 6, ground := Ground.phase }, { on := 7, ground := Ground.phase }], guard := none }) (v := ?tkv916) rfl (by kernel_rfl) (by kernel_rfl) (by kernel_rfl) (fun _ _ _ h => h) (Or.inl ⟨by rfl, ?tky916⟩) hH914 ?tkr916
          case tky916 => (intro w' hSw; clear hSw; go_simp; try with_reducible rfl)
          try simp only [Act.put, List.setIfInBounds_toArray, List.set_cons_zero, List.set_cons_succ]
          refine wpAnyH_ready (rs := [10]) (by kernel_rfl) (by simp) ?_
          refine AllReadyH.cons (o := { dst := none, op := Op.store 67 (Operand.tmp 59) (Operand.tmp 57), type := 0, pos := "wheel.go:63", after := #[{ on := 9, ground := Ground.data }, { on := 7, ground := Ground.data }, { on := 7, ground := Ground.chain }, { on := 0, ground := Ground.phase }, { on := 1, ground := Ground.phase }, { on := 2, ground := Ground.phase }, { on := 3, ground := Ground.phase }, { on := 4, ground := Ground.phase }, { on := 5, ground := Ground.phase }, { on := 6, ground := Ground.phase }, { on := 7, ground := Ground.phase }], guard := none }) rfl (fun K hK => ?_) AllReadyH.nil
          have q917 := wc6 HAPP.out.1
          have y917 := q917.2.2.2.1
          have z917 := q917.2.2.2.2.2.2.1
          go_simp
          clear q917 y917 z917
          have hS917 : SR wb gw gr (.slice Av nv cv) (recV rid rg ro rm rc) (w4.setCell ⟨gw, 3, none⟩ (.slice A4 (nv + 1) c4)) := ((hH914).set HNG.out 3 (.slice A4 (nv + 1) c4))
          refine hK.out _ _ hS917 (fun hH917 => ?_)
          have hH917 : SR wb gw gr (.slice Av nv cv) (recV rid rg ro rm rc) (w4.setCell ⟨gw, 3, none⟩ (.slice A4 (nv + 1) c4)) := hH917
          clear hK K hS917
          refine wpAnyH_done (by kernel_rfl) ?_ _
          refine NoPanic.normal ?_
          have HSE := Lib.hid (hH917)
          have HWH : Hid (WhAt (Pn P w (w4.setCell ⟨gw, 3, none⟩ (.slice A4 (nv + 1) c4))) gw gf { h.upto s b k with L := h.L ++ recsUp h.gen h.wide b (k + 1) } (w4.setCell ⟨gw, 3, none⟩ (.slice A4 (nv + 1) c4))) := Lib.hid (by
            have e : (w4.setCell ⟨gw, 3, none⟩ (.slice A4 (nv + 1) c4)).heap.size = w4.heap.size := by simp [World.setCell]
            have e2 : h.L ++ recsUp h.gen h.wide b (k + 1) = (h.upto s b k).L ++ [(rid, rd)] := by
              show _ = (h.L ++ recsUp h.gen h.wide b k) ++ [(rid, rd)]
              rw [List.append_assoc]
              show h.L ++ (recsUp h.gen h.wide b k ++ _) = _
              rw [HWD.out, if_pos HPB.out, HRP.out]
            unfold Pn
            rw [e, e2]; exact HAPP.out.2)
          have HFR : Hid (Frm w (w4.setCell ⟨gw, 3, none⟩ (.slice A4 (nv + 1) c4)) P) := HFB.out.trans HSE.out.fr (fun b hb h => by
            rcases h with h | h
            · rw [h]; exact HPG.out
            · rcases (HRW.out.2.1 b h).1 with h1 | h1
              · exact h1
              · omega)
          clear HAPP HSE
          obtain ⟨W5, hW5⟩ : ∃ W5, w4.setCell ⟨gw, 3, none⟩ (.slice A4 (nv + 1) c4) = W5 := ⟨_, rfl⟩
          rw [hW5] at HWH HFR ⊢
          have HPL := Lib.hid (plAt_row (HRD.out W5 HFR.out) HKW.out)
          obtain ⟨A5, n5, c5, es5, hg5, -, -, -, -⟩ := HWH.out
          obtain ⟨-, -, u2, -, -, u5, -, -, f5⟩ := wc6 hg5
          rw [HKA2.out] at HPL
          clear hg5
          cases hff : allFF (plAt b wd k) with
          | true =>
            have HB5 := Lib.hid (wblank_any _ wd (cap - ka) _ _ W5 HPL.out (by omega))
            rw [hff] at HB5
            have HUP : Hid ({ h.upto s b k with L := h.L ++ recsUp h.gen h.wide b (k + 1) } = h.upto s b (k + 1)) := by
              show _ = _
              have e : nextUp h.wide (s * h.per) h.next b (k + 1) = nextUp h.wide (s * h.per) h.next b k := by
                show (if allFF (plAt b h.wide k) then _ else _) = _
                rw [HWD.out, hff, if_pos rfl]
              unfold Wh.upto
              rw [e]
            rw [HUP.out] at HWH
            clear hff HUP HPL u2 u5 f5
            go_wp2_with fail
            refine HB5.out.mono ?_
            rintro e w' ⟨rfl, rfl⟩
            clear HB5
            go_wp2_with fail
            go_roundw
            case rel => exact ⟨k + 1, by omega, by go_num, HWH, HFR⟩
            case measure => simp [intOf]; omega
          | false =>
            have HB5 := Lib.hid (wblank_any _ wd (cap - ka) _ _ W5 HPL.out (by omega))
            rw [hff] at HB5
            have HN5 := Lib.hid (HWH.out.next (s * h.per + k + 1) ((sp : Int) + (k : Int) + 1) (by have := HSP.out.2; omega))
            have HUP : Hid ({ ({ h.upto s b k with L := h.L ++ recsUp h.gen h.wide b (k + 1) } : Wh) with next := s * h.per + k + 1 } = h.upto s b (k + 1)) := by
              show _ = _
              unfold Wh.upto
              have e : nextUp h.wide (s * h.per) h.next b (k + 1) = s * h.per + k + 1 := by
                show (if allFF (plAt b h.wide k) then _ else _) = _
                rw [HWD.out, hff, if_neg (by decide)]
              rw [e]
            rw [HUP.out] at HN5
            have HP5 := Lib.hid (HPE.out W5 u2)
            have HFR6 : Hid (Frm w (W5.setCell ⟨gw, 5, none⟩ (.int .i64 ((sp : Int) + (k : Int) + 1))) P) := HFR.out.trans (Frm.of_grown (F := fun b => b = gw) (grown_set W5 gw 5 _) (fun g h _ => by injection h with h; exact h.symm)) (fun b _ h => by rw [h]; exact HPG.out)
            have HN6 : Hid (WhAt (Pn P w (W5.setCell ⟨gw, 5, none⟩ (.int .i64 ((sp : Int) + (k : Int) + 1)))) gw gf (h.upto s b (k + 1)) (W5.setCell ⟨gw, 5, none⟩ (.int .i64 ((sp : Int) + (k : Int) + 1)))) := Lib.hid (by
              have e : (W5.setCell ⟨gw, 5, none⟩ (.int .i64 ((sp : Int) + (k : Int) + 1))).heap.size = W5.heap.size := by simp [World.setCell]
              unfold Pn
              rw [e]; exact HN5.out)
            clear hff HUP HPL HN5 HWH HFR
            go_wp2_with fail
            refine HB5.out.mono ?_
            rintro e w' ⟨rfl, rfl⟩
            clear HB5
            go_wp2_with fail
            refine HP5.out.mono ?_
            rintro e w' ⟨rfl, rfl⟩
            clear HP5
            go_wp2_with (rw [HSP.out.1])
            go_roundw
            case rel => exact ⟨k + 1, by omega, by go_num, HN6, HFR6⟩
            case measure => simp [intOf]; omega
    · obtain rfl : k = pr := by omega
      go_wp2_with fail
      go_end0
      rw [HPR.out]
      exact ⟨rfl, hwh, hfr⟩
end Go.Proofs.YtoblapnnpjgpnaaGreatDoor
