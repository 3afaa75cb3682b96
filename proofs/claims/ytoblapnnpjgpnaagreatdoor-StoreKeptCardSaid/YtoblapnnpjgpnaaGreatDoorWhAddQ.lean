/- Wheel: Add, Records: by contract. -/
import Derived.Test.YtoblapnnpjgpnaaGreatDoorWhOpenQ
namespace Go.Proofs.YtoblapnnpjgpnaaGreatDoor
open Go.RowKit
/-- what holds while a record is made and added to the list v -/
structure SF (wb : World) (gw : Nat) (v : Value) (W : World) : Prop where
  fr : Frm wb W (fun b => b = gw ∨ v.ownBlock = some b)
section
variable {wb W W' : World} {gw : Nat} {v : Value}
theorem SF.below (h : SF wb gw v W) (hb : Below W.heap.size W W') : SF wb gw v W' := ⟨h.fr.trans (Frm.of_below (F := fun _ => False) hb) (fun _ _ h => h.elim)⟩
theorem SF.app (h : SF wb gw v W) (hg : W.grownBy W' v.ownBlock) : SF wb gw v W' :=
  ⟨h.fr.trans (Frm.of_grown (F := fun b => v.ownBlock = some b) hg (fun _ h _ => h)) (fun _ _ h => .inr h)⟩
theorem SF.set (h : SF wb gw v W) (k : Nat) (u : Value) : SF wb gw v (W.setCell ⟨gw, k, none⟩ u) :=
  ⟨h.fr.trans (Frm.of_grown (F := fun b => b = gw) (grown_set W gw k u) (fun g h _ => by injection h with h; exact h.symm)) (fun _ _ h => .inl h)⟩
end
theorem RNew.below {w W W' : World} {gw rg ro rm : Nat} {v : Value} {d : List UInt8} (h : RNew w gw v rg ro rm d W) (hb : Below W.heap.size W W') : RNew w gw v rg ro rm d W' := by
  obtain ⟨h1, h2, h3, h4, h5⟩ := h
  exact ⟨h1, Nat.lt_of_lt_of_le h2 hb.size, h3, h4, (h5.below hb).more hb.size⟩
theorem rnew_of {w wb W0 W : World} {gw rg rm : Nat} {v : Value} {d : List UInt8} (hv : ∀ g, v.ownBlock = some g → g < wb.heap.size) (hg : gw < wb.heap.size) (hw : w.heap.size ≤ wb.heap.size) (hs : wb.heap.size ≤ W0.heap.size) (h1 : W0.heap.size ≤ rg) (h2 : rg < W.heap.size) (hr : Row W W.heap.size (some ⟨rg, 0, none⟩) rm (bv d)) : RNew w gw v rg 0 rm d W :=
  ⟨by omega, h2, by omega, fun e => by have := hv rg e; omega, hr⟩
theorem drewN_below (w : World) (q : Nat) : Below w.heap.size w (w.drewN q) := ⟨rfl, rfl, rfl, Nat.le_refl _, fun _ _ => rfl⟩
def AddOk (P : Nat → Prop) (gw gf : Nat) (r : Wh × Fl × Int) (w : World) (e : Ending) (w' : World) : Prop :=
  e = .returned (.int .i64 r.2.2) ∧ Hid (WhAt (Pn P w w') gw gf r.1 w') ∧ Hid (FlAt w' gf r.2.1) ∧ Hid (Frm w w' (fun b => P b ∨ b = gf))
set_option maxRecDepth 100000 in
set_option maxHeartbeats 12800000 in
theorem add_in (P : Nat → Prop) (gw gf id B cap : Nat) (A : Option Addr) (x : Wh) (d : List UInt8) (f : Fl) (K : Int) (w : World) (hW : WhAt P gw gf x w) (hf : FlAt w gf f) (ok : x.Ok) (hok : f.Ok K) (hK : K ≤ 900000)
    (hl : Row w B A x.size (bv d)) (hA : ∀ b o, A = some ⟨b, o, none⟩ → b ≠ gf ∧ ¬ P b) (hB : B ≤ w.heap.size) (hid : id < 4294967296) :
    Calls Tryz.prog 29 #[.pointer (some ⟨gw, 0, none⟩), .int .u32 (id : Int), .slice A x.size cap] w (AddOk P gw gf (x.add f id d) w) := by
  obtain ⟨i0, hi, hz0, hz1, hz2⟩ := info_parts Tryz.info70
  have HE := Lib.hid (wempty_no hW)
  have HRM := Lib.hid (wroom_any hW ok)
  have HW := Lib.hid hW
  have HF := Lib.hid hf
  have HGF := Lib.hid hf.lt
  have HDN := Lib.hid (fun W (h : FlAt W gf f) => down_any gf f f.down W h rfl)
  have hnx := ok.next
  have hsz1 := ok.size1
  have hsz2 := ok.size2
  have hmany := ok.many
  have hbl := hl.blen
  have hWc := hW
  obtain ⟨A0, n0, c0, es0, hg, hPg, hPf, -, -⟩ := hWc
  have hne : gw ≠ gf := fun e => hPf (by rw [← e]; exact hPg)
  have HNE := Lib.hid hne
  have HPG := Lib.hid hPg
  have HPF := Lib.hid hPf
  have HGWL0 := Lib.hid hW.lt
  have HC : Hid (∀ W : World, W.heap[gw]? = w.heap[gw]? → W.heap[gw]? = some (.cells (wcells gf x (.slice A0 n0 c0)) 122 (0, 0))) := fun W hW => hW.trans hg
  obtain ⟨R, hR⟩ : ∃ R, x.add f id d = R := ⟨_, rfl⟩
  rw [hR]
  have hRR : R = if x.next = 8 * x.per then (x, f, 9) else if f.down then (x, f, 11) else
      if (f.prepW x.ready (x.next / x.per)).2 = 0 then
        if ((f.prepW x.ready (x.next / x.per)).1.prog (x.at_ x.next) (wrec x.gen id d)).2 = 0 then
          ({ x with L := x.L ++ [(id, d)], ready := (x.next / x.per : Nat), next := x.next + 1 }, ((f.prepW x.ready (x.next / x.per)).1.prog (x.at_ x.next) (wrec x.gen id d)).1, 0)
        else ({ x with ready := (x.next / x.per : Nat) }, (f.prepW x.ready (x.next / x.per)).1.prog (x.at_ x.next) (wrec x.gen id d))
      else (x, f.prepW x.ready (x.next / x.per)) := by
    rw [← hR]; unfold Wh.add; rw [if_pos hbl]
  have u := wc6 hg
  have u0 := u.1
  have u2 := u.2.2.1
  have hbz : ((x.size : Int) != (x.size : Int)) = false := bne_self_eq_false _
  by_cases hfull : x.next = 8 * x.per
  · have HRE : Hid (R = (x, f, 9)) := by show _ = _; rw [hRR, if_pos hfull]
    have hrm : x.room = 0 := by unfold Wh.room; omega
    rw [hrm] at HRM
    rw [HRE.out]
    have HSZ := Lib.hid (show x.size = x.size from rfl)
    generalize hsz : x.size = sz at *
    clear hR hRR hfull hg u hrm hf hl hA hW hnx hok
    go_enter Tryz.func29, Tryz.ntmps29
    go_wp2_with fail
    refine HE.out.mono ?_
    rintro e w' ⟨rfl, rfl⟩
    go_wp2_with fail
    refine HRM.out.mono ?_
    rintro e w' ⟨rfl, q, rfl⟩
    go_wp2_with fail
    go_ret
    have hb := drewN_below w q
    exact ⟨rfl, Lib.hid ((HW.out.below hb).pn HGF.out), Lib.hid (HF.out.below hb), Frm.of_below hb⟩
  have hrm : ((((x.room : Nat) : Int)) == 0) = false := by
    rw [beq_eq_false_iff_ne]; unfold Wh.room; omega
  obtain ⟨rm, hrm2⟩ : ∃ rm, x.room = rm := ⟨_, rfl⟩
  rw [hrm2] at hrm HRM
  cases hdn : f.down with
  | true =>
    have HRE : Hid (R = (x, f, 11)) := by show _ = _; rw [hRR, if_neg hfull, if_pos hdn]
    rw [hdn] at HDN
    rw [HRE.out]
    generalize hsz : x.size = sz at *
    clear hR hRR hfull hg u hf hl hA hW hnx hok hrm2 hdn
    go_enter Tryz.func29, Tryz.ntmps29
    go_wp2_with fail
    refine HE.out.mono ?_
    rintro e w' ⟨rfl, rfl⟩
    go_wp2_with fail
    refine HRM.out.mono ?_
    rintro e w' ⟨rfl, q, rfl⟩
    have u0' : (w.drewN q).cell? ⟨gw, 0, none⟩ = some (.pointer (some ⟨gf, 0, none⟩)) := u0
    have HDQ := Lib.hid (HDN.out (w.drewN q) HF.out)
    go_wp2_with fail
    refine HDQ.out.mono ?_
    rintro e w' ⟨rfl, rfl⟩
    go_wp2_with fail
    go_ret
    have hb := drewN_below w q
    exact ⟨rfl, Lib.hid ((HW.out.below hb).pn HGF.out), Lib.hid (HF.out.below hb), Frm.of_below hb⟩
  | false =>
    have hnx2 : x.next < 8 * x.per := by omega
    obtain ⟨hp8, hp18, hpm⟩ := per_bounds ok.size1 ok.size2
    have HPE := Lib.hid (fun W (hc : W.cell? ⟨gw, 2, none⟩ = some (.int .i64 (x.size : Int))) => still_of (wper_any gw x.size W hc ok.size1 ok.size2))
    have hpe : x.per = 256 / (x.size + 13) := rfl
    obtain ⟨pr, hpr⟩ : ∃ pr, 256 / (x.size + 13) = pr := ⟨_, rfl⟩
    rw [hpr] at HPE hpe hp8 hp18
    rw [hpe] at hRR hnx2
    obtain ⟨qs, hqs⟩ : ∃ qs, x.next / pr = qs := ⟨_, rfl⟩
    have hqs8 : qs < 8 := by rw [← hqs]; exact Nat.div_lt_of_lt_mul (by rw [Nat.mul_comm]; exact hnx2)
    rw [hqs] at hRR
    have HPP := Lib.hid (fun W (hW' : WhAt P gw gf x W) (hf' : FlAt W gf f) => prepw_any P gw gf qs x f K W hW' hf' hdn hqs8 hok (by omega))
    have hqsi0 : (x.next : Int) / (pr : Int) = (qs : Int) := by rw [← hqs]; rfl
    have HQS : Hid (IntKind.i64.wrap ((x.next : Int) / (pr : Int)) = (qs : Int)) := by show _ = _; rw [hqsi0]; exact IntWalk.i64_in _ ⟨by omega, by omega⟩
    have hd1 := prepW_down f x.ready qs
    have hok1 := hok.prepW x.ready qs
    obtain ⟨f1, r1, hE⟩ : ∃ f1 r1, f.prepW x.ready qs = (f1, r1) := ⟨_, _, rfl⟩
    rw [hE] at hRR hd1 hok1
    simp only [hE] at HPP
    dsimp only at hRR hd1 hok1
    have HRR : Hid (R = if r1 = 0 then if (f1.prog (x.at_ x.next) (wrec x.gen id d)).2 = 0 then ({ x with L := x.L ++ [(id, d)], ready := (qs : Nat), next := x.next + 1 }, (f1.prog (x.at_ x.next) (wrec x.gen id d)).1, 0) else ({ x with ready := (qs : Nat) }, f1.prog (x.at_ x.next) (wrec x.gen id d)) else (x, f1, r1)) := by
      show _ = _
      rw [hRR, if_neg (by rw [← hpe]; exact hfull), if_neg (by rw [hdn]; decide)]
    have HD1 := Lib.hid (fun h => (hd1 h).trans hdn)
    have HOK1 := Lib.hid hok1
    rw [hdn] at HDN
    have HL := Lib.hid hl
    have HA := Lib.hid hA
    have HOKX := Lib.hid ok
    have HNXL := Lib.hid (show x.next < 8 * x.per by rw [hpe]; exact hnx2)
    obtain ⟨nn, hnn⟩ : ∃ nn, x.next = nn := ⟨_, rfl⟩
    have HNN := Lib.hid hnn
    have HBN := Lib.hid hbl
    have HMANY := Lib.hid hmany
    rw [hnn] at hnx2 HQS hqsi0 HRR
    obtain ⟨sz, hsz⟩ : ∃ sz, x.size = sz := ⟨_, rfl⟩
    have HSZ := Lib.hid hsz
    rw [hsz] at hbz u2 hsz1 hsz2 HPE HL HBN ⊢
    clear hR hRR hfull hg u hf hl hA hW hnx hok hrm2 hdn hE hd1 hok1 hpr hpe hpm hqs hnn hsz hbl hne hPg hPf hqsi0 hmany ok
    go_enter Tryz.func29, Tryz.ntmps29
    go_wp2_with fail
    refine HE.out.mono ?_
    rintro e w' ⟨rfl, rfl⟩
    go_wp2_with fail
    refine HRM.out.mono ?_
    rintro e w' ⟨rfl, q, rfl⟩
    have u0' : (w.drewN q).cell? ⟨gw, 0, none⟩ = some (.pointer (some ⟨gf, 0, none⟩)) := u0
    have HDQ := Lib.hid (HDN.out (w.drewN q) HF.out)
    go_wp2_with fail
    refine HDQ.out.mono ?_
    rintro e w' ⟨rfl, rfl⟩
    clear HE HRM HDN HDQ u0' hrm hbz u0 u2
    have HBQ : Hid (Below w.heap.size w (w.drewN q).drew) := (drewN_below w q).drew
    go_wp2_with fail
    obtain ⟨wq, hwq⟩ : ∃ wq, wq = w.drewN q := ⟨_, rfl⟩
    rw [← hwq] at HBQ ⊢
    have HCq := Lib.hid (HC.out wq.drew (HBQ.out.block gw HGWL0.out))
    have uq := wc6 HCq.out
    have q2 := uq.2.2.1
    rw [HSZ.out] at q2
    have q5 := uq.2.2.2.2.2.1
    rw [HNN.out] at q5
    have HPEQ := Lib.hid (HPE.out wq.drew q2)
    have HPPQ := Lib.hid (HPP.out wq.drew (HW.out.below HBQ.out) (HF.out.below HBQ.out))
    have hq1 := HQS.out
    have hq0 : ¬ pr = 0 := by omega
    have u5 : wq.cell? ⟨gw, 5, none⟩ = some (.int .i64 (nn : Int)) := q5
    clear uq q2 hwq HPE HPP
    refine wp_region_still_tail 8 (by kernel_rfl) (by kernel_rfl) ?_
    simp only [List.take_succ_cons, List.take_zero, List.drop_succ_cons, List.drop_zero]
    repeat still_step
    still_call HPEQ.out
    repeat still_step
    refine wpStill_nil ?_
    change wpList _ _ _ _ _ wq.drew
    go_wp2_with fail
    refine HPPQ.out.mono ?_
    rintro e w1 ⟨rfl, hw1, hf1, hfr1⟩
    dsimp only
    have HFR1 : Hid (Frm w w1 (fun b => P b ∨ b = gf)) := (Frm.of_below HBQ.out).trans hfr1.out (fun _ _ h => h)
    clear HPPQ HPEQ hq1 hq0 u5 q5 HCq hfr1
    by_cases h0 : r1 = 0
    · subst h0
      have HW1 : Hid (WhAt P gw gf { x with ready := (qs : Int) } w1) := by have := hw1.out; rwa [if_pos rfl] at this
      have HL1 : Hid (Row w1 B A sz (bv d)) := HL.out.frm (fun b o e _ => by rintro (h | h); exact (HA.out b o e).2 h; exact (HA.out b o e).1 h) HFR1.out hB
      have hat : ({ x with ready := (qs : Int) } : Wh).at_ ({ x with ready := (qs : Int) } : Wh).next = x.at_ nn := by rw [← HNN.out]; rfl
      have HPG2 := Lib.hid (wprog_any P gw gf id B cap A { x with ready := (qs : Int) } d f1 (K + 1) w1 HW1.out hf1.out (HD1.out rfl) ⟨HOKX.out.gen, HOKX.out.size1, HOKX.out.size2, HOKX.out.next, ⟨by show -1 ≤ (qs : Int); omega, by show (qs : Int) < 8; omega⟩, HOKX.out.many⟩ HNXL.out HOK1.out (by omega) (by show Row w1 B A x.size (bv d); rw [HSZ.out]; exact HL1.out) (fun b o e => (HA.out b o e).1) (Nat.le_trans hB HFR1.out.size) hid)
      rw [hat] at HPG2
      have hszx : ({ x with ready := (qs : Int) } : Wh).size = sz := HSZ.out
      have hgnx : ({ x with ready := (qs : Int) } : Wh).gen = x.gen := rfl
      rw [hszx, hgnx] at HPG2
      obtain ⟨f2, r2, hE⟩ : ∃ f2 r2, f1.prog (x.at_ nn) (wrec x.gen id d) = (f2, r2) := ⟨_, _, rfl⟩
      have HRR2 : Hid (R = if r2 = 0 then ({ x with L := x.L ++ [(id, d)], ready := (qs : Nat), next := nn + 1 }, f2, 0) else ({ x with ready := (qs : Nat) }, f2, r2)) := by
        show _ = _
        rw [HRR.out, if_pos rfl, hE]
        (try rw [HNN.out]) <;> (try rfl)
      rw [hE] at HPG2
      clear hw1 hE hat hszx hgnx HRR HW HF
      go_wp2_with fail
      refine HPG2.out.mono ?_
      rintro e w2 ⟨rfl, hd2⟩
      dsimp only
      have HW2 : Hid (WhAt P gw gf { x with ready := (qs : Int) } w2) := HW1.out.keep (fun b hb hl => hd2.out.2.block b hl (fun e => HPF.out (by injection e with e; rw [← e]; exact hb))) hd2.out.2.size
      have HF8 : Hid (FlAt w2 gf f2) := hd2.out.1
      have HFB : Hid (Frm w w2 (fun b => P b ∨ b = gf)) := HFR1.out.trans (Frm.of_grown (F := fun b => b = gf) hd2.out.2 (fun g h _ => by injection h with h; exact h.symm)) (fun _ _ h => .inr h)
      have HL2 : Hid (Row w2 B A sz (bv d)) := HL.out.frm (fun b o e _ => by rintro (h | h); exact (HA.out b o e).2 h; exact (HA.out b o e).1 h) HFB.out hB
      clear hd2 HPG2 HW1 hf1 HFR1 HL1 HL
      by_cases h2 : r2 = 0
      · subst h2
        have HRES : Hid (R = ({ x with L := x.L ++ [(id, d)], ready := (qs : Nat), next := nn + 1 }, f2, 0)) := by show _ = _; rw [HRR2.out, if_pos rfl]
        go_upto_region 13 with fail
        obtain ⟨wb, hwb⟩ : ∃ wb, wb = w2 := ⟨_, rfl⟩
        rw [← hwb] at HW2 HF8 HFB HL2 ⊢
        clear hwb
        obtain ⟨Av, nv, cv, es, hgw, hpw, -, hrw, hes⟩ := (HW2.out.pn (w := w) (Nat.lt_of_lt_of_le HGF.out (Nat.le_refl _)))
        have HGW := Lib.hid hgw
        have HPW := Lib.hid hpw
        have HRW := Lib.hid hrw
        have HES := Lib.hid hes
        have HNV : Hid (nv ≤ 1000) := by
          show _ ≤ _
          have e1 := hrw.2.2.1
          have e2 : es.length = x.L.length := by
            have : (es.map RRow.pair).length = es.length := by simp
            rw [← this, hes]
          have := HMANY.out
          omega
        have hsb := HFB.out.size
        have LGW : Hid (gw < wb.heap.size) := HW2.out.lt
        have HGL : Hid (gw < wb.heap.size) := LGW
        have HVL : Hid (∀ g, (Value.slice Av nv cv).ownBlock = some g → g < wb.heap.size) := fun g hg => (hrw.1.lt g hg).2
        have HBL : Hid (w.heap.size ≤ wb.heap.size) := hsb
        have HWA : Hid (w.heap.size ≤ wb.heap.size) := hsb
        have HDL : Hid (d.length = sz) := HBN.out
        have SFB : Hid (SF wb gw (.slice Av nv cv) wb) := ⟨Frm.refl _ _⟩
        have HAv : Hid (∀ b o, A = some ⟨b, o, none⟩ → ¬ (b = gw ∨ (Value.slice Av nv cv).ownBlock = some b)) := fun b o e => by
          rintro (h | h)
          · exact (HA.out b o e).2 (by rw [h]; exact HPG.out)
          · rcases (hrw.2.1 b h).1 with h1 | h1
            · exact (HA.out b o e).2 h1
            · obtain ⟨b2, o2, e2, hlt2, _⟩ := HL2.out.2 (by omega)
              rw [e] at e2
              injection e2 with e2
              injection e2 with e2
              omega
        have HCL : Hid (∀ W : World, SF wb gw (.slice Av nv cv) W → Calls Tryz.prog 38 #[.slice A sz cap] W (FreshBytes W.heap.size d W)) := fun W hS =>
          clone_any B sz cap A d W (HL2.out.frm (fun b o e _ => HAv.out b o e) hS.fr (Nat.le_trans hB hsb)) (by omega) (Nat.le_trans hB (Nat.le_trans hsb hS.fr.size))
        clear hgw hpw hrw hes HW2 HRR2
        refine wp_region_noPanic ?_
        refine wp_region_held_drew (S := (fun W => SF wb gw (.slice Av nv cv) W)) (by kernel_rfl) (SFB.out.below (Below.refl _ _).drew) (fun hH0 => ?_)
        have hH0 : SF wb gw (.slice Av nv cv) wb.drew := hH0
        have HRWd := Lib.hid (HRW.out.below ((Below.refl wb.heap.size wb).drew))
        have HGWd := Lib.hid (show wb.drew.heap[gw]? = _ from HGW.out)
        have LGWd := Lib.hid (show gw < wb.drew.heap.size from LGW.out)
        generalize wb.drew = wd900 at *
        refine wpAnyH_take (i := 0) (oi := { dst := some 50, op := Op.move (Operand.tmp 0), type := 59, pos := "wheel.go:106", after := #[], guard := none }) (v := ?tkv901) rfl (by kernel_rfl) (by kernel_rfl) (by kernel_rfl) (fun _ _ _ h => h) (Or.inl ⟨by rfl, ?tky901⟩) hH0 ?tkr901
        case tky901 => (intro w' hSw; clear hSw; go_simp; try with_reducible rfl)
        try simp only [Act.put, List.setIfInBounds_toArray, List.set_cons_zero, List.set_cons_succ]
        refine wpAnyH_take (i := 1) (oi := { dst := some 51, op := Op.move (Operand.tmp 0), type := 59, pos := "wheel.go:106", after := #[], guard := none }) (v := ?tkv902) rfl (by kernel_rfl) (by kernel_rfl) (by kernel_rfl) (fun _ _ _ h => h) (Or.inl ⟨by rfl, ?tky902⟩) hH0 ?tkr902
        case tky902 => (intro w' hSw; clear hSw; go_simp; try with_reducible rfl)
        try simp only [Act.put, List.setIfInBounds_toArray, List.set_cons_zero, List.set_cons_succ]
        refine wpAnyH_take (i := 2) (oi := { dst := some 52, op := Op.nilCheck (Operand.tmp 51), type := 0, pos := "wheel.go:106", after := #[{ on := 1, ground := Ground.data }], guard := none }) (v := ?tkv903) rfl (by kernel_rfl) (by kernel_rfl) (by kernel_rfl) (fun _ _ _ h => h) (Or.inl ⟨by rfl, ?tky903⟩) hH0 ?tkr903
        case tky903 => (intro w' hSw; clear hSw; go_simp; try with_reducible rfl)
        try simp only [Act.put, List.setIfInBounds_toArray, List.set_cons_zero, List.set_cons_succ]
        refine wpAnyH_take (i := 3) (oi := { dst := some 53, op := Op.fieldAddr 122 (Operand.tmp 52) 3, type := 0, pos := "wheel.go:106", after := #[{ on := 2, ground := Ground.data }], guard := none }) (v := ?tkv904) rfl (by kernel_rfl) (by kernel_rfl) (by kernel_rfl) (fun _ _ _ h => h) (Or.inl ⟨by rfl, ?tky904⟩) hH0 ?tkr904
        case tky904 => (intro w' hSw; clear hSw; go_simp; try with_reducible rfl)
        try simp only [Act.put, List.setIfInBounds_toArray, List.set_cons_zero, List.set_cons_succ]
        refine wpAnyH_take (i := 5) (oi := { dst := some 55, op := Op.move (Operand.tmp 1), type := 22, pos := "wheel.go:106", after := #[], guard := none }) (v := ?tkv905) rfl (by kernel_rfl) (by kernel_rfl) (by kernel_rfl) (fun _ _ _ h => h) (Or.inl ⟨by rfl, ?tky905⟩) hH0 ?tkr905
        case tky905 => (intro w' hSw; clear hSw; go_simp; try with_reducible rfl)
        try simp only [Act.put, List.setIfInBounds_toArray, List.set_cons_zero, List.set_cons_succ]
        refine wpAnyH_take (i := 6) (oi := { dst := some 56, op := Op.move (Operand.tmp 2), type := 23, pos := "wheel.go:106", after := #[], guard := none }) (v := ?tkv906) rfl (by kernel_rfl) (by kernel_rfl) (by kernel_rfl) (fun _ _ _ h => h) (Or.inl ⟨by rfl, ?tky906⟩) hH0 ?tkr906
        case tky906 => (intro w' hSw; clear hSw; go_simp; try with_reducible rfl)
        try simp only [Act.put, List.setIfInBounds_toArray, List.set_cons_zero, List.set_cons_succ]
        refine wpAnyH_ready (rs := [4, 7]) (by kernel_rfl) (by simp) ?_
        refine AllReadyH.cons (o := { dst := some 54, op := Op.load 67 (Operand.tmp 53), type := 67, pos := "wheel.go:106", after := #[{ on := 3, ground := Ground.data }], guard := none }) rfl (fun K hK => ?_) (AllReadyH.cons (o := { dst := some 57, op := Op.call { callee := Callee.value (Operand.func 38), args := #[Operand.tmp 56], argTypes := #[23] }, type := 23, pos := "wheel.go:106", after := #[{ on := 6, ground := Ground.data }], guard := none }) rfl (fun K hK => ?_) AllReadyH.nil)
        · have hc907 := (wc6 HGWd.out).2.2.2.1
          go_simp
          clear hc907
          have hS907 : SF wb gw (.slice Av nv cv) wd900 := hH0
          refine hK.out _ _ hS907 (fun hH907 => ?_)
          have hH907 : SF wb gw (.slice Av nv cv) wd900 := hH907
          clear hK K hS907
          try simp only [Act.put, List.setIfInBounds_toArray, List.set_cons_zero, List.set_cons_succ]
          refine wpAnyH_ready (rs := [7]) (by kernel_rfl) (by simp) ?_
          refine AllReadyH.cons (o := { dst := some 57, op := Op.call { callee := Callee.value (Operand.func 38), args := #[Operand.tmp 56], argTypes := #[23] }, type := 23, pos := "wheel.go:106", after := #[{ on := 6, ground := Ground.data }], guard := none }) rfl (fun K hK => ?_) AllReadyH.nil
          go_simp
          refine (HCL.out wd900 (hH907)).mono ?_
          rintro e' wn908 ⟨Ac908, nc908, rc, rfl, hnc908, ho908, hb908⟩
          obtain rfl : sz = nc908 := (hnc908.out.trans HDL.out).symm
          obtain ⟨rg, rcc908, hv908, hg908, hl908⟩ := ho908.form (by omega)
          injection hv908 with e1908 e2908 e3908
          subst e1908 e3908
          have HNW908 : Hid (RNew w gw (.slice Av nv cv) rg 0 sz d wn908) := Lib.hid (rnew_of HVL.out HGL.out HBL.out (hH907).fr.size hg908 hl908 (Row.of_own ho908))
          clear ho908 hnc908
          go_simp
          have HRWd_908 := Lib.hid (HRWd.out.below hb908)
          have HGWd_908 := Lib.hid ((hb908.block gw LGWd.out).trans HGWd.out)
          have LGWd_908 := Lib.hid (Nat.lt_of_lt_of_le LGWd.out hb908.size)
          have hS908 : SF wb gw (.slice Av nv cv) wn908 := ((hH907).below hb908)
          refine hK.out _ _ hS908 (fun hH908 => ?_)
          have hH908 : SF wb gw (.slice Av nv cv) wn908 := hH908
          clear hK K hS908
          try simp only [Act.put, List.setIfInBounds_toArray, List.set_cons_zero, List.set_cons_succ]
          refine wpAnyH_take (i := 8) (oi := { dst := some 58, op := Op.build 70 #[(0, Operand.tmp 55), (1, Operand.tmp 57)], type := 70, pos := "wheel.go:106", after := #[{ on := 5, ground := Ground.data }, { on := 7, ground := Ground.data }], guard := none }) (v := ?tkv909) rfl (by kernel_rfl) (by kernel_rfl) (by kernel_rfl) (fun _ _ _ h => h) (Or.inl ⟨by rfl, ?tky909⟩) hH908 ?tkr909
          case tky909 => (intro w' hSw; clear hSw; go_simp; try with_reducible rfl)
          try simp only [Act.put, List.setIfInBounds_toArray, List.set_cons_zero, List.set_cons_succ]
          refine wpAnyH_ready (rs := [9]) (by kernel_rfl) (by simp) ?_
          refine AllReadyH.cons (o := { dst := some 59, op := Op.buildSlice 67 1 #[(0, Operand.tmp 58)], type := 67, pos := "wheel.go:106", after := #[{ on := 8, ground := Ground.data }], guard := none }) rfl (fun K hK => ?_) AllReadyH.nil
          go_simp
          have hb910 : Below wn908.heap.size wn908 (wn908.alloc (.cells #[.int .u32 (id : Int), .slice (some ⟨rg, 0, none⟩) sz rc] 70)) := (Below.refl _ _).alloc (Nat.le_refl _) _
          have AX910 : Hid ((wn908.alloc (.cells #[.int .u32 (id : Int), .slice (some ⟨rg, 0, none⟩) sz rc] 70)).heap[wn908.heap.size]? = some (.cells #[.int .u32 (id : Int), .slice (some ⟨rg, 0, none⟩) sz rc] 70 (0, 0))) := Lib.hid (heap_alloc_new _ _)
          have AL910 : Hid (wn908.heap.size < (wn908.alloc (.cells #[.int .u32 (id : Int), .slice (some ⟨rg, 0, none⟩) sz rc] 70)).heap.size) := Lib.hid (by simp)
          generalize (wn908.alloc (.cells #[.int .u32 (id : Int), .slice (some ⟨rg, 0, none⟩) sz rc] 70)) = wn910 at *
          have HRWd_910 := Lib.hid (HRWd_908.out.below hb910)
          have HGWd_910 := Lib.hid ((hb910.block gw LGWd_908.out).trans HGWd_908.out)
          have LGWd_910 := Lib.hid (Nat.lt_of_lt_of_le LGWd_908.out hb910.size)
          have HNW908_910 := Lib.hid (HNW908.out.below hb910)
          have hS910 : SF wb gw (.slice Av nv cv) wn910 := ((hH908).below hb910)
          refine hK.out _ _ hS910 (fun hH910 => ?_)
          have hH910 : SF wb gw (.slice Av nv cv) wn910 := hH910
          clear hK K hS910
          try simp only [Act.put, List.setIfInBounds_toArray, List.set_cons_zero, List.set_cons_succ]
          refine wpAnyH_ready (rs := [10]) (by kernel_rfl) (by simp) ?_
          refine AllReadyH.cons (o := { dst := some 60, op := Op.call { callee := Callee.builtin Builtin.append, args := #[Operand.tmp 54, Operand.tmp 59], argTypes := #[67, 67] }, type := 67, pos := "wheel.go:106", after := #[{ on := 4, ground := Ground.data }, { on := 9, ground := Ground.data }, { on := 7, ground := Ground.chain }], guard := none }) rfl (fun K hK => ?_) AllReadyH.nil
          rw [if_pos (by rfl)]
          refine wp_app2 (.tmp 54) (.tmp 59) 67 rfl 0 70 i0 _ 32 Tryz.underlying67 hi hz0 hz1 hz2 rfl _ nv _ rfl HRWd_910.out.1 _ 1 _ _ 70 rfl AX910.out rfl rfl (by have := HNV.out; unfold maxLen; omega) (by have := HNV.out; omega) (Nat.zero_le _) ?_
          intro v4 w4 hown4 hg4 hat4
          obtain ⟨A4, c4, rfl⟩ := own2_form hown4
          have HAPP := Lib.hid (wh_grow (h := { x with ready := (qs : Int) }) HGWd_910.out HPW.out HPF.out HGF.out (hH910).fr.size (Nat.le_trans HWA.out (hH910).fr.size) HRWd_910.out HES.out HNW908_910.out hown4 hg4 hat4)
          have hS911 : SF wb gw (.slice Av nv cv) w4 := ((hH910).app hg4)
          refine hK.out _ _ hS911 (fun hH911 => ?_)
          have hH911 : SF wb gw (.slice Av nv cv) w4 := hH911
          clear hK K hS911
          try simp only [Act.put, List.setIfInBounds_toArray, List.set_cons_zero, List.set_cons_succ]
          refine wpAnyH_take (i := 11) (oi := { dst := some 61, op := Op.nilCheck (Operand.tmp 50), type := 0, pos := "wheel.go:106", after := #[{ on := 0, ground := Ground.data }, { on := 0, ground := Ground.phase }, { on := 1, ground := Ground.phase }, { on := 2, ground := Ground.phase }, { on := 3, ground := Ground.phase }, { on := 4, ground := Ground.phase }, { on := 5, ground := Ground.phase }, { on := 6, ground := Ground.phase }, { on := 7, ground := Ground.phase }, { on := 8, ground := Ground.phase }, { on := 9, ground := Ground.phase }, { on := 10, ground := Ground.phase }], guard := none }) (v := ?tkv912) rfl (by kernel_rfl) (by kernel_rfl) (by kernel_rfl) (fun _ _ _ h => h) (Or.inl ⟨by rfl, ?tky912⟩) hH911 ?tkr912
          case tky912 => (intro w' hSw; clear hSw; go_simp; try with_reducible rfl)
          try simp only [Act.put, List.setIfInBounds_toArray, List.set_cons_zero, List.set_cons_succ]
          refine wpAnyH_take (i := 12) (oi := { dst := some 62, op := Op.fieldAddr 122 (Operand.tmp 61) 3, type := 0, pos := "wheel.go:106", after := #[{ on := 11, ground := Ground.data }, { on := 0, ground := Ground.phase }, { on := 1, ground := Ground.phase }, { on := 2, ground := Ground.phase }, { on := 3, ground := Ground.phase }, { on := 4, ground := Ground.phase }, { on := 5, ground := Ground.phase }, { on := 6, ground := Ground.phase }, { on := 7, ground := Ground.phase }, { on := 8, ground := Ground.phase }, { on := 9, ground := Ground.phase }, { on := 10, ground := Ground.phase }], guard := none }) (v := ?tkv913) rfl (by kernel_rfl) (by kernel_rfl) (by kernel_rfl) (fun _ _ _ h => h) (Or.inl ⟨by rfl, ?tky913⟩) hH911 ?tkr913
          case tky913 => (intro w' hSw; clear hSw; go_simp; try with_reducible rfl)
          try simp only [Act.put, List.setIfInBounds_toArray, List.set_cons_zero, List.set_cons_succ]
          refine wpAnyH_ready (rs := [13]) (by kernel_rfl) (by simp) ?_
          refine AllReadyH.cons (o := { dst := none, op := Op.store 67 (Operand.tmp 62) (Operand.tmp 60), type := 0, pos := "wheel.go:106", after := #[{ on := 12, ground := Ground.data }, { on := 10, ground := Ground.data }, { on := 10, ground := Ground.chain }, { on := 0, ground := Ground.phase }, { on := 1, ground := Ground.phase }, { on := 2, ground := Ground.phase }, { on := 3, ground := Ground.phase }, { on := 4, ground := Ground.phase }, { on := 5, ground := Ground.phase }, { on := 6, ground := Ground.phase }, { on := 7, ground := Ground.phase }, { on := 8, ground := Ground.phase }, { on := 9, ground := Ground.phase }, { on := 10, ground := Ground.phase }], guard := none }) rfl (fun K hK => ?_) AllReadyH.nil
          have q914 := wc6 HAPP.out.1
          have y914 := q914.2.2.2.1
          have z914 := q914.2.2.2.2.2.2.1
          go_simp
          clear q914 y914 z914
          have hS914 : SF wb gw (.slice Av nv cv) (w4.setCell ⟨gw, 3, none⟩ (.slice A4 (nv + 1) c4)) := ((hH911).set 3 (.slice A4 (nv + 1) c4))
          refine hK.out _ _ hS914 (fun hH914 => ?_)
          have hH914 : SF wb gw (.slice Av nv cv) (w4.setCell ⟨gw, 3, none⟩ (.slice A4 (nv + 1) c4)) := hH914
          clear hK K hS914
          refine wpAnyH_done (by kernel_rfl) ?_ _
          refine NoPanic.normal ?_
          have HSE := Lib.hid (hH914)
          have HW9 := HAPP.out.2
          have HFR9 : Hid (Frm w (w4.setCell ⟨gw, 3, none⟩ (.slice A4 (nv + 1) c4)) (fun b => P b ∨ b = gf)) := HFB.out.trans HSE.out.fr (fun b hb h => by
            rcases h with h | h
            · rw [h]; exact .inl HPG.out
            · rcases (HRW.out.2.1 b h).1 with h1 | h1
              · exact .inl h1
              · omega)
          have HF9 : Hid (FlAt (w4.setCell ⟨gw, 3, none⟩ (.slice A4 (nv + 1) c4)) gf f2) := Lib.hid (HF8.out.keep (HSE.out.fr.block gf HF8.out.lt (by
            rintro (h | h)
            · exact HNE.out h.symm
            · rcases (HRW.out.2.1 gf h).1 with h1 | h1
              · exact HPF.out h1
              · have := HGF.out; omega)))
          have hz9 := HAPP.out.1
          obtain ⟨W5, hW5⟩ : ∃ W5, w4.setCell ⟨gw, 3, none⟩ (.slice A4 (nv + 1) c4) = W5 := ⟨_, rfl⟩
          have hs5 : W5.heap.size = w4.heap.size := by rw [← hW5]; simp [World.setCell]
          rw [hW5] at HW9 HFR9 HF9 ⊢
          have HWc9 := HW9
          obtain ⟨Ay, ny, cy, ey, hy, -, -, -, -⟩ := HWc9
          have q5 := wc6 hy
          have y5 := q5.2.2.2.2.2.1
          have z5 := q5.2.2.2.2.2.2.2.2
          have y5' : W5.cell? ⟨gw, 5, none⟩ = some (.int .i64 (nn : Int)) := by rw [y5, ← HNN.out]
          have HW10 := HW9.next (nn + 1) ((nn : Int) + 1) (by push_cast; rfl)
          have HE5 := Lib.hid hs5
          have HW10 := Lib.hid HW10
          clear hW5 hy q5 y5 HSE HAPP hz9 HW9 hs5
          go_wp2_with fail
          go_ret
          refine ⟨?_, ?_, ?_, ?_⟩
          · rw [HRES.out]; rfl
          · rw [HRES.out]
            have e : (W5.setCell ⟨gw, 5, none⟩ (.int .i64 ((nn : Int) + 1))).heap.size = w4.heap.size := by rw [← HE5.out]; simp [World.setCell]
            unfold Pn
            rw [e]
            have hw := HW10.out
            have e2 : ({ ({ ({ x with ready := (qs : Int) } : Wh) with L := x.L ++ [(id, d)] } : Wh) with next := nn + 1 } : Wh) = { x with L := x.L ++ [(id, d)], ready := (qs : Int), next := nn + 1 } := rfl
            exact hw
          · rw [HRES.out]; exact Lib.hid (HF9.out.grown (grown_set W5 gw 5 (.int .i64 ((nn : Int) + 1))) (by intro e; injection e with e; exact HNE.out e))
          · exact HFR9.out.trans (Frm.of_grown (F := fun b => b = gw) (grown_set W5 gw 5 _) (fun g h _ => by injection h with h; exact h.symm)) (fun b _ h => by rw [h]; exact .inl HPG.out)
        · go_simp
          refine (HCL.out wd900 (hH0)).mono ?_
          rintro e' wn915 ⟨Ac915, nc915, rc, rfl, hnc915, ho915, hb915⟩
          obtain rfl : sz = nc915 := (hnc915.out.trans HDL.out).symm
          obtain ⟨rg, rcc915, hv915, hg915, hl915⟩ := ho915.form (by omega)
          injection hv915 with e1915 e2915 e3915
          subst e1915 e3915
          have HNW915 : Hid (RNew w gw (.slice Av nv cv) rg 0 sz d wn915) := Lib.hid (rnew_of HVL.out HGL.out HBL.out (hH0).fr.size hg915 hl915 (Row.of_own ho915))
          clear ho915 hnc915
          go_simp
          have HRWd_915 := Lib.hid (HRWd.out.below hb915)
          have HGWd_915 := Lib.hid ((hb915.block gw LGWd.out).trans HGWd.out)
          have LGWd_915 := Lib.hid (Nat.lt_of_lt_of_le LGWd.out hb915.size)
          have hS915 : SF wb gw (.slice Av nv cv) wn915 := ((hH0).below hb915)
          refine hK.out _ _ hS915 (fun hH915 => ?_)
          have hH915 : SF wb gw (.slice Av nv cv) wn915 := hH915
          clear hK K hS915
          try simp only [Act.put, List.setIfInBounds_toArray, List.set_cons_zero, List.set_cons_succ]
          refine wpAnyH_take (i := 8) (oi := { dst := some 58, op := Op.build 70 #[(0, Operand.tmp 55), (1, Operand.tmp 57)], type := 70, pos := "wheel.go:106", after := #[{ on := 5, ground := Ground.data }, { on := 7, ground := Ground.data }], guard := none }) (v := ?tkv916) rfl (by kernel_rfl) (by kernel_rfl) (by kernel_rfl) (fun _ _ _ h => h) (Or.inl ⟨by rfl, ?tky916⟩) hH915 ?tkr916
          case tky916 => (intro w' hSw; clear hSw; go_simp; try with_reducible rfl)
          try simp only [Act.put, List.setIfInBounds_toArray, List.set_cons_zero, List.set_cons_succ]
          refine wpAnyH_ready (rs := [4, 9]) (by kernel_rfl) (by simp) ?_
          refine AllReadyH.cons (o := { dst := some 54, op := Op.load 67 (Operand.tmp 53), type := 67, pos := "wheel.go:106", after := #[{ on := 3, ground := Ground.data }], guard := none }) rfl (fun K hK => ?_) (AllReadyH.cons (o := { dst := some 59, op := Op.buildSlice 67 1 #[(0, Operand.tmp 58)], type := 67, pos := "wheel.go:106", after := #[{ on := 8, ground := Ground.data }], guard := none }) rfl (fun K hK => ?_) AllReadyH.nil)
          · have hc917 := (wc6 HGWd_915.out).2.2.2.1
            go_simp
            clear hc917
            have hS917 : SF wb gw (.slice Av nv cv) wn915 := hH915
            refine hK.out _ _ hS917 (fun hH917 => ?_)
            have hH917 : SF wb gw (.slice Av nv cv) wn915 := hH917
            clear hK K hS917
            try simp only [Act.put, List.setIfInBounds_toArray, List.set_cons_zero, List.set_cons_succ]
            refine wpAnyH_ready (rs := [9]) (by kernel_rfl) (by simp) ?_
            refine AllReadyH.cons (o := { dst := some 59, op := Op.buildSlice 67 1 #[(0, Operand.tmp 58)], type := 67, pos := "wheel.go:106", after := #[{ on := 8, ground := Ground.data }], guard := none }) rfl (fun K hK => ?_) AllReadyH.nil
            go_simp
            have hb918 : Below wn915.heap.size wn915 (wn915.alloc (.cells #[.int .u32 (id : Int), .slice (some ⟨rg, 0, none⟩) sz rc] 70)) := (Below.refl _ _).alloc (Nat.le_refl _) _
            have AX918 : Hid ((wn915.alloc (.cells #[.int .u32 (id : Int), .slice (some ⟨rg, 0, none⟩) sz rc] 70)).heap[wn915.heap.size]? = some (.cells #[.int .u32 (id : Int), .slice (some ⟨rg, 0, none⟩) sz rc] 70 (0, 0))) := Lib.hid (heap_alloc_new _ _)
            have AL918 : Hid (wn915.heap.size < (wn915.alloc (.cells #[.int .u32 (id : Int), .slice (some ⟨rg, 0, none⟩) sz rc] 70)).heap.size) := Lib.hid (by simp)
            generalize (wn915.alloc (.cells #[.int .u32 (id : Int), .slice (some ⟨rg, 0, none⟩) sz rc] 70)) = wn918 at *
            have HRWd_918 := Lib.hid (HRWd_915.out.below hb918)
            have HGWd_918 := Lib.hid ((hb918.block gw LGWd_915.out).trans HGWd_915.out)
            have LGWd_918 := Lib.hid (Nat.lt_of_lt_of_le LGWd_915.out hb918.size)
            have HNW915_918 := Lib.hid (HNW915.out.below hb918)
            have hS918 : SF wb gw (.slice Av nv cv) wn918 := ((hH917).below hb918)
            refine hK.out _ _ hS918 (fun hH918 => ?_)
            have hH918 : SF wb gw (.slice Av nv cv) wn918 := hH918
            clear hK K hS918
            try simp only [Act.put, List.setIfInBounds_toArray, List.set_cons_zero, List.set_cons_succ]
            refine wpAnyH_ready (rs := [10]) (by kernel_rfl) (by simp) ?_
            refine AllReadyH.cons (o := { dst := some 60, op := Op.call { callee := Callee.builtin Builtin.append, args := #[Operand.tmp 54, Operand.tmp 59], argTypes := #[67, 67] }, type := 67, pos := "wheel.go:106", after := #[{ on := 4, ground := Ground.data }, { on := 9, ground := Ground.data }, { on := 7, ground := Ground.chain }], guard := none }) rfl (fun K hK => ?_) AllReadyH.nil
            rw [if_pos (by rfl)]
            refine wp_app2 (.tmp 54) (.tmp 59) 67 rfl 0 70 i0 _ 32 Tryz.underlying67 hi hz0 hz1 hz2 rfl _ nv _ rfl HRWd_918.out.1 _ 1 _ _ 70 rfl AX918.out rfl rfl (by have := HNV.out; unfold maxLen; omega) (by have := HNV.out; omega) (Nat.zero_le _) ?_
            intro v4 w4 hown4 hg4 hat4
            obtain ⟨A4, c4, rfl⟩ := own2_form hown4
            have HAPP := Lib.hid (wh_grow (h := { x with ready := (qs : Int) }) HGWd_918.out HPW.out HPF.out HGF.out (hH918).fr.size (Nat.le_trans HWA.out (hH918).fr.size) HRWd_918.out HES.out HNW915_918.out hown4 hg4 hat4)
            have hS919 : SF wb gw (.slice Av nv cv) w4 := ((hH918).app hg4)
            refine hK.out _ _ hS919 (fun hH919 => ?_)
            have hH919 : SF wb gw (.slice Av nv cv) w4 := hH919
            clear hK K hS919
            try simp only [Act.put, List.setIfInBounds_toArray, List.set_cons_zero, List.set_cons_succ]
            refine wpAnyH_take (i := 11) (oi := { dst := some 61, op := Op.nilCheck (Operand.tmp 50), type := 0, pos := "wheel.go:106", after := #[{ on := 0, ground := Ground.data }, { on := 0, ground := Ground.phase }, { on := 1, ground := Ground.phase }, { on := 2, ground := Ground.phase }, { on := 3, ground := Ground.phase }, { on := 4, ground := Ground.phase }, { on := 5, ground := Ground.phase }, { on := 6, ground := Ground.phase }, { on := 7, ground := Ground.phase }, { on := 8, ground := Ground.phase }, { on := 9, ground := Ground.phase }, { on := 10, ground := Ground.phase }], guard := none }) (v := ?tkv920) rfl (by kernel_rfl) (by kernel_rfl) (by kernel_rfl) (fun _ _ _ h => h) (Or.inl ⟨by rfl, ?tky920⟩) hH919 ?tkr920
            case tky920 => (intro w' hSw; clear hSw; go_simp; try with_reducible rfl)
            try simp only [Act.put, List.setIfInBounds_toArray, List.set_cons_zero, List.set_cons_succ]
            refine wpAnyH_take (i := 12) (oi := { dst := some 62, op := Op.fieldAddr 122 (Operand.tmp 61) 3, type := 0, pos := "wheel.go:106", after := #[{ on := 11, ground := Ground.data }, { on := 0, ground := Ground.phase }, { on := 1, ground := Ground.phase }, { on := 2, ground := Ground.phase }, { on := 3, ground := Ground.phase }, { on := 4, ground := Ground.phase }, { on := 5, ground := Ground.phase }, { on := 6, ground := Ground.phase }, { on := 7, ground := Ground.phase }, { on := 8, ground := Ground.phase }, { on := 9, ground := Ground.phase }, { on := 10, ground := Ground.phase }], guard := none }) (v := ?tkv921) rfl (by kernel_rfl) (by kernel_rfl) (by kernel_rfl) (fun _ _ _ h => h) (Or.inl ⟨by rfl, ?tky921⟩) hH919 ?tkr921
            case tky921 => (intro w' hSw; clear hSw; go_simp; try with_reducible rfl)
            try simp only [Act.put, List.setIfInBounds_toArray, List.set_cons_zero, List.set_cons_succ]
            refine wpAnyH_ready (rs := [13]) (by kernel_rfl) (by simp) ?_
            refine AllReadyH.cons (o := { dst := none, op := Op.store 67 (Operand.tmp 62) (Operand.tmp 60), type := 0, pos := "wheel.go:106", after := #[{ on := 12, ground := Ground.data }, { on := 10, ground := Ground.data }, { on := 10, ground := Ground.chain }, { on := 0, ground := Ground.phase }, { on := 1, ground := Ground.phase }, { on := 2, ground := Ground.phase }, { on := 3, ground := Ground.phase }, { on := 4, ground := Ground.phase }, { on := 5, ground := Ground.phase }, { on := 6, ground := Ground.phase }, { on := 7, ground := Ground.phase }, { on := 8, ground := Ground.phase }, { on := 9, ground := Ground.phase }, { on := 10, ground := Ground.phase }], guard := none }) rfl (fun K hK => ?_) AllReadyH.nil
            have q922 := wc6 HAPP.out.1
            have y922 := q922.2.2.2.1
            have z922 := q922.2.2.2.2.2.2.1
            go_simp
            clear q922 y922 z922
            have hS922 : SF wb gw (.slice Av nv cv) (w4.setCell ⟨gw, 3, none⟩ (.slice A4 (nv + 1) c4)) := ((hH919).set 3 (.slice A4 (nv + 1) c4))
            refine hK.out _ _ hS922 (fun hH922 => ?_)
            have hH922 : SF wb gw (.slice Av nv cv) (w4.setCell ⟨gw, 3, none⟩ (.slice A4 (nv + 1) c4)) := hH922
            clear hK K hS922
            refine wpAnyH_done (by kernel_rfl) ?_ _
            refine NoPanic.normal ?_
            have HSE := Lib.hid (hH922)
            have HW9 := HAPP.out.2
            have HFR9 : Hid (Frm w (w4.setCell ⟨gw, 3, none⟩ (.slice A4 (nv + 1) c4)) (fun b => P b ∨ b = gf)) := HFB.out.trans HSE.out.fr (fun b hb h => by
              rcases h with h | h
              · rw [h]; exact .inl HPG.out
              · rcases (HRW.out.2.1 b h).1 with h1 | h1
                · exact .inl h1
                · omega)
            have HF9 : Hid (FlAt (w4.setCell ⟨gw, 3, none⟩ (.slice A4 (nv + 1) c4)) gf f2) := Lib.hid (HF8.out.keep (HSE.out.fr.block gf HF8.out.lt (by
              rintro (h | h)
              · exact HNE.out h.symm
              · rcases (HRW.out.2.1 gf h).1 with h1 | h1
                · exact HPF.out h1
                · have := HGF.out; omega)))
            have hz9 := HAPP.out.1
            obtain ⟨W5, hW5⟩ : ∃ W5, w4.setCell ⟨gw, 3, none⟩ (.slice A4 (nv + 1) c4) = W5 := ⟨_, rfl⟩
            have hs5 : W5.heap.size = w4.heap.size := by rw [← hW5]; simp [World.setCell]
            rw [hW5] at HW9 HFR9 HF9 ⊢
            have HWc9 := HW9
            obtain ⟨Ay, ny, cy, ey, hy, -, -, -, -⟩ := HWc9
            have q5 := wc6 hy
            have y5 := q5.2.2.2.2.2.1
            have z5 := q5.2.2.2.2.2.2.2.2
            have y5' : W5.cell? ⟨gw, 5, none⟩ = some (.int .i64 (nn : Int)) := by rw [y5, ← HNN.out]
            have HW10 := HW9.next (nn + 1) ((nn : Int) + 1) (by push_cast; rfl)
            have HE5 := Lib.hid hs5
            have HW10 := Lib.hid HW10
            clear hW5 hy q5 y5 HSE HAPP hz9 HW9 hs5
            go_wp2_with fail
            go_ret
            refine ⟨?_, ?_, ?_, ?_⟩
            · rw [HRES.out]; rfl
            · rw [HRES.out]
              have e : (W5.setCell ⟨gw, 5, none⟩ (.int .i64 ((nn : Int) + 1))).heap.size = w4.heap.size := by rw [← HE5.out]; simp [World.setCell]
              unfold Pn
              rw [e]
              have hw := HW10.out
              have e2 : ({ ({ ({ x with ready := (qs : Int) } : Wh) with L := x.L ++ [(id, d)] } : Wh) with next := nn + 1 } : Wh) = { x with L := x.L ++ [(id, d)], ready := (qs : Int), next := nn + 1 } := rfl
              exact hw
            · rw [HRES.out]; exact Lib.hid (HF9.out.grown (grown_set W5 gw 5 (.int .i64 ((nn : Int) + 1))) (by intro e; injection e with e; exact HNE.out e))
            · exact HFR9.out.trans (Frm.of_grown (F := fun b => b = gw) (grown_set W5 gw 5 _) (fun g h _ => by injection h with h; exact h.symm)) (fun b _ h => by rw [h]; exact .inl HPG.out)
          · go_simp
            have hb923 : Below wn915.heap.size wn915 (wn915.alloc (.cells #[.int .u32 (id : Int), .slice (some ⟨rg, 0, none⟩) sz rc] 70)) := (Below.refl _ _).alloc (Nat.le_refl _) _
            have AX923 : Hid ((wn915.alloc (.cells #[.int .u32 (id : Int), .slice (some ⟨rg, 0, none⟩) sz rc] 70)).heap[wn915.heap.size]? = some (.cells #[.int .u32 (id : Int), .slice (some ⟨rg, 0, none⟩) sz rc] 70 (0, 0))) := Lib.hid (heap_alloc_new _ _)
            have AL923 : Hid (wn915.heap.size < (wn915.alloc (.cells #[.int .u32 (id : Int), .slice (some ⟨rg, 0, none⟩) sz rc] 70)).heap.size) := Lib.hid (by simp)
            generalize (wn915.alloc (.cells #[.int .u32 (id : Int), .slice (some ⟨rg, 0, none⟩) sz rc] 70)) = wn923 at *
            have HRWd_923 := Lib.hid (HRWd_915.out.below hb923)
            have HGWd_923 := Lib.hid ((hb923.block gw LGWd_915.out).trans HGWd_915.out)
            have LGWd_923 := Lib.hid (Nat.lt_of_lt_of_le LGWd_915.out hb923.size)
            have HNW915_923 := Lib.hid (HNW915.out.below hb923)
            have hS923 : SF wb gw (.slice Av nv cv) wn923 := ((hH915).below hb923)
            refine hK.out _ _ hS923 (fun hH923 => ?_)
            have hH923 : SF wb gw (.slice Av nv cv) wn923 := hH923
            clear hK K hS923
            try simp only [Act.put, List.setIfInBounds_toArray, List.set_cons_zero, List.set_cons_succ]
            refine wpAnyH_ready (rs := [4]) (by kernel_rfl) (by simp) ?_
            refine AllReadyH.cons (o := { dst := some 54, op := Op.load 67 (Operand.tmp 53), type := 67, pos := "wheel.go:106", after := #[{ on := 3, ground := Ground.data }], guard := none }) rfl (fun K hK => ?_) AllReadyH.nil
            have hc924 := (wc6 HGWd_923.out).2.2.2.1
            go_simp
            clear hc924
            have hS924 : SF wb gw (.slice Av nv cv) wn923 := hH923
            refine hK.out _ _ hS924 (fun hH924 => ?_)
            have hH924 : SF wb gw (.slice Av nv cv) wn923 := hH924
            clear hK K hS924
            try simp only [Act.put, List.setIfInBounds_toArray, List.set_cons_zero, List.set_cons_succ]
            refine wpAnyH_ready (rs := [10]) (by kernel_rfl) (by simp) ?_
            refine AllReadyH.cons (o := { dst := some 60, op := Op.call { callee := Callee.builtin Builtin.append, args := #[Operand.tmp 54, Operand.tmp 59], argTypes := #[67, 67] }, type := 67, pos := "wheel.go:106", after := #[{ on := 4, ground := Ground.data }, { on := 9, ground := Ground.data }, { on := 7, ground := Ground.chain }], guard := none }) rfl (fun K hK => ?_) AllReadyH.nil
            rw [if_pos (by rfl)]
            refine wp_app2 (.tmp 54) (.tmp 59) 67 rfl 0 70 i0 _ 32 Tryz.underlying67 hi hz0 hz1 hz2 rfl _ nv _ rfl HRWd_923.out.1 _ 1 _ _ 70 rfl AX923.out rfl rfl (by have := HNV.out; unfold maxLen; omega) (by have := HNV.out; omega) (Nat.zero_le _) ?_
            intro v4 w4 hown4 hg4 hat4
            obtain ⟨A4, c4, rfl⟩ := own2_form hown4
            have HAPP := Lib.hid (wh_grow (h := { x with ready := (qs : Int) }) HGWd_923.out HPW.out HPF.out HGF.out (hH924).fr.size (Nat.le_trans HWA.out (hH924).fr.size) HRWd_923.out HES.out HNW915_923.out hown4 hg4 hat4)
            have hS925 : SF wb gw (.slice Av nv cv) w4 := ((hH924).app hg4)
            refine hK.out _ _ hS925 (fun hH925 => ?_)
            have hH925 : SF wb gw (.slice Av nv cv) w4 := hH925
            clear hK K hS925
            try simp only [Act.put, List.setIfInBounds_toArray, List.set_cons_zero, List.set_cons_succ]
            refine wpAnyH_take (i := 11) (oi := { dst := some 61, op := Op.nilCheck (Operand.tmp 50), type := 0, pos := "wheel.go:106", after := #[{ on := 0, ground := Ground.data }, { on := 0, ground := Ground.phase }, { on := 1, ground := Ground.phase }, { on := 2, ground := Ground.phase }, { on := 3, ground := Ground.phase }, { on := 4, ground := Ground.phase }, { on := 5, ground := Ground.phase }, { on := 6, ground := Ground.phase }, { on := 7, ground := Ground.phase }, { on := 8, ground := Ground.phase }, { on := 9, ground := Ground.phase }, { on := 10, ground := Ground.phase }], guard := none }) (v := ?tkv926) rfl (by kernel_rfl) (by kernel_rfl) (by kernel_rfl) (fun _ _ _ h => h) (Or.inl ⟨by rfl, ?tky926⟩) hH925 ?tkr926
            case tky926 => (intro w' hSw; clear hSw; go_simp; try with_reducible rfl)
            try simp only [Act.put, List.setIfInBounds_toArray, List.set_cons_zero, List.set_cons_succ]
            refine wpAnyH_take (i := 12) (oi := { dst := some 62, op := Op.fieldAddr 122 (Operand.tmp 61) 3, type := 0, pos := "wheel.go:106", after := #[{ on := 11, ground := Ground.data }, { on := 0, ground := Ground.phase }, { on := 1, ground := Ground.phase }, { on := 2, ground := Ground.phase }, { on := 3, ground := Ground.phase }, { on := 4, ground := Ground.phase }, { on := 5, ground := Ground.phase }, { on := 6, ground := Ground.phase }, { on := 7, ground := Ground.phase }, { on := 8, ground := Ground.phase }, { on := 9, ground := Ground.phase }, { on := 10, ground := Ground.phase }], guard := none }) (v := ?tkv927) rfl (by kernel_rfl) (by kernel_rfl) (by kernel_rfl) (fun _ _ _ h => h) (Or.inl ⟨by rfl, ?tky927⟩) hH925 ?tkr927
            case tky927 => (intro w' hSw; clear hSw; go_simp; try with_reducible rfl)
            try simp only [Act.put, List.setIfInBounds_toArray, List.set_cons_zero, List.set_cons_succ]
            refine wpAnyH_ready (rs := [13]) (by kernel_rfl) (by simp) ?_
            refine AllReadyH.cons (o := { dst := none, op := Op.store 67 (Operand.tmp 62) (Operand.tmp 60), type := 0, pos := "wheel.go:106", after := #[{ on := 12, ground := Ground.data }, { on := 10, ground := Ground.data }, { on := 10, ground := Ground.chain }, { on := 0, ground := Ground.phase }, { on := 1, ground := Ground.phase }, { on := 2, ground := Ground.phase }, { on := 3, ground := Ground.phase }, { on := 4, ground := Ground.phase }, { on := 5, ground := Ground.phase }, { on := 6, ground := Ground.phase }, { on := 7, ground := Ground.phase }, { on := 8, ground := Ground.phase }, { on := 9, ground := Ground.phase }, { on := 10, ground := Ground.phase }], guard := none }) rfl (fun K hK => ?_) AllReadyH.nil
            have q928 := wc6 HAPP.out.1
            have y928 := q928.2.2.2.1
            have z928 := q928.2.2.2.2.2.2.1
            go_simp
            clear q928 y928 z928
            have hS928 : SF wb gw (.slice Av nv cv) (w4.setCell ⟨gw, 3, none⟩ (.slice A4 (nv + 1) c4)) := ((hH925).set 3 (.slice A4 (nv + 1) c4))
            refine hK.out _ _ hS928 (fun hH928 => ?_)
            have hH928 : SF wb gw (.slice Av nv cv) (w4.setCell ⟨gw, 3, none⟩ (.slice A4 (nv + 1) c4)) := hH928
            clear hK K hS928
            refine wpAnyH_done (by kernel_rfl) ?_ _
            refine NoPanic.normal ?_
            have HSE := Lib.hid (hH928)
            have HW9 := HAPP.out.2
            have HFR9 : Hid (Frm w (w4.setCell ⟨gw, 3, none⟩ (.slice A4 (nv + 1) c4)) (fun b => P b ∨ b = gf)) := HFB.out.trans HSE.out.fr (fun b hb h => by
              rcases h with h | h
              · rw [h]; exact .inl HPG.out
              · rcases (HRW.out.2.1 b h).1 with h1 | h1
                · exact .inl h1
                · omega)
            have HF9 : Hid (FlAt (w4.setCell ⟨gw, 3, none⟩ (.slice A4 (nv + 1) c4)) gf f2) := Lib.hid (HF8.out.keep (HSE.out.fr.block gf HF8.out.lt (by
              rintro (h | h)
              · exact HNE.out h.symm
              · rcases (HRW.out.2.1 gf h).1 with h1 | h1
                · exact HPF.out h1
                · have := HGF.out; omega)))
            have hz9 := HAPP.out.1
            obtain ⟨W5, hW5⟩ : ∃ W5, w4.setCell ⟨gw, 3, none⟩ (.slice A4 (nv + 1) c4) = W5 := ⟨_, rfl⟩
            have hs5 : W5.heap.size = w4.heap.size := by rw [← hW5]; simp [World.setCell]
            rw [hW5] at HW9 HFR9 HF9 ⊢
            have HWc9 := HW9
            obtain ⟨Ay, ny, cy, ey, hy, -, -, -, -⟩ := HWc9
            have q5 := wc6 hy
            have y5 := q5.2.2.2.2.2.1
            have z5 := q5.2.2.2.2.2.2.2.2
            have y5' : W5.cell? ⟨gw, 5, none⟩ = some (.int .i64 (nn : Int)) := by rw [y5, ← HNN.out]
            have HW10 := HW9.next (nn + 1) ((nn : Int) + 1) (by push_cast; rfl)
            have HE5 := Lib.hid hs5
            have HW10 := Lib.hid HW10
            clear hW5 hy q5 y5 HSE HAPP hz9 HW9 hs5
            go_wp2_with fail
            go_ret
            refine ⟨?_, ?_, ?_, ?_⟩
            · rw [HRES.out]; rfl
            · rw [HRES.out]
              have e : (W5.setCell ⟨gw, 5, none⟩ (.int .i64 ((nn : Int) + 1))).heap.size = w4.heap.size := by rw [← HE5.out]; simp [World.setCell]
              unfold Pn
              rw [e]
              have hw := HW10.out
              have e2 : ({ ({ ({ x with ready := (qs : Int) } : Wh) with L := x.L ++ [(id, d)] } : Wh) with next := nn + 1 } : Wh) = { x with L := x.L ++ [(id, d)], ready := (qs : Int), next := nn + 1 } := rfl
              exact hw
            · rw [HRES.out]; exact Lib.hid (HF9.out.grown (grown_set W5 gw 5 (.int .i64 ((nn : Int) + 1))) (by intro e; injection e with e; exact HNE.out e))
            · exact HFR9.out.trans (Frm.of_grown (F := fun b => b = gw) (grown_set W5 gw 5 _) (fun g h _ => by injection h with h; exact h.symm)) (fun b _ h => by rw [h]; exact .inl HPG.out)
      · have h2' : (r2 != 0) = true := by simpa using h2
        have HRE : Hid (R = ({ x with ready := (qs : Nat) }, f2, r2)) := by show _ = _; rw [HRR2.out, if_neg h2]
        clear h2
        go_wp2_with fail
        go_ret
        refine ⟨?_, ?_, ?_, HFB⟩
        · rw [HRE.out]; rfl
        · rw [HRE.out]; exact Lib.hid (HW2.out.pn HGF.out)
        · rw [HRE.out]; exact HF8
    · have h0' : (r1 != 0) = true := by simpa using h0
      have HRE : Hid (R = (x, f1, r1)) := by show _ = _; rw [HRR.out, if_neg h0]
      have HW1 : Hid (WhAt P gw gf x w1) := by have := hw1.out; rwa [if_neg h0] at this
      clear h0
      go_wp2_with fail
      go_ret
      refine ⟨?_, ?_, ?_, HFR1⟩
      · rw [HRE.out]; rfl
      · rw [HRE.out]; exact Lib.hid (HW1.out.pn HGF.out)
      · rw [HRE.out]; exact hf1
end Go.Proofs.YtoblapnnpjgpnaaGreatDoor
