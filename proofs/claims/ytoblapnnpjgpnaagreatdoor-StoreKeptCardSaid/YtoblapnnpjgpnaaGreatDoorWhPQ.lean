/- Wheel: empty, Room, prepare, add, program: by contracts. -/
import Derived.StillTailTactics
import Derived.Test.YtoblapnnpjgpnaaGreatDoorZJQ
import Derived.Test.YtoblapnnpjgpnaaGreatDoorZAQ
namespace Go.Proofs.YtoblapnnpjgpnaaGreatDoor
open Go.RowKit
section
variable {P : Nat → Prop} {gw gf : Nat} {h : Wh} {w : World}
theorem wempty_no (hW : WhAt P gw gf h w) : Calls Tryz.prog 62 #[.pointer (some ⟨gw, 0, none⟩)] w fun e w' => e = .returned (.bool false) ∧ w = w' := by
  obtain ⟨A, n, c, es, hg, -⟩ := hW
  have hc := (wc6 hg).1
  clear hg
  go_enter Tryz.func62, Tryz.ntmps62
  go_wp2_with fail
  go_ret
  exact ⟨rfl, rfl⟩
set_option maxRecDepth 100000 in
set_option maxHeartbeats 800000 in
theorem wroom_any (hW : WhAt P gw gf h w) (ok : h.Ok) : Calls Tryz.prog 65 #[.pointer (some ⟨gw, 0, none⟩)] w fun e w' => e = .returned (.int .i64 ((h.room : Nat) : Int)) ∧ ∃ q, w' = w.drewN q := by
  have HE := Lib.hid (wempty_no hW)
  obtain ⟨A, n, c, es, hg, -⟩ := hW
  obtain ⟨-, -, u2, -, -, u5, -, -, -⟩ := wc6 hg
  have HP := Lib.hid (fun q => wper_any gw h.size (w.drewN q) u2 ok.size1 ok.size2)
  have hpb := per_bounds ok.size1 ok.size2
  have hn := ok.next
  obtain ⟨pr, hpr⟩ : ∃ pr, 256 / (h.size + 13) = pr := ⟨_, rfl⟩
  have hR : h.room = 8 * pr - h.next := by show 8 * (256 / (h.size + 13)) - h.next = _; rw [hpr]
  have hn2 : h.next ≤ 8 * pr := by rw [← hpr]; exact hn
  rw [hpr] at HP hpb
  have hp18 : (pr : Int) ≤ 18 := by omega
  generalize h.next = nx at *
  have hni : (nx : Int) ≤ 8 * (pr : Int) := by omega
  have HR : Hid (8 * (pr : Int) - (nx : Int) = ((h.room : Nat) : Int)) := by show _ = _; omega
  clear hg hpb hpr hR hn hn2
  go_enter Tryz.func65, Tryz.ntmps65
  go_wp2_with fail
  refine HE.out.mono ?_
  rintro e w' ⟨rfl, rfl⟩
  go_wp2_with fail
  go_quiet ((go_at_call 68; with_reducible exact Calls.quiet_of_same (wsame (HP.out _))))
  go_wp2_with fail
  go_ret
  exact ⟨congrArg (fun z => Ending.returned (.int .i64 z)) HR.out, _, rfl⟩
end
def PrepOk (P : Nat → Prop) (gw gf s : Nat) (h : Wh) (r : Fl × Int) (w : World) (e : Ending) (w' : World) : Prop :=
  e = .returned (.int .i64 r.2) ∧ Hid (WhAt P gw gf (if r.2 = 0 then { h with ready := (s : Int) } else h) w') ∧ Hid (FlAt w' gf r.1) ∧ Hid (Frm w w' (fun b => P b ∨ b = gf))
theorem erase_at (g s : Nat) (si : Int) (hsi : si = (s : Int)) (f : Fl) (w : World) (hf : FlAt w g f) (hd : f.down = false) (hs : s < 14) (he : 0 ≤ f.er s) (hwm : f.wear ≤ 9223372036854775807)
    (h0 : -9223372036854775808 ≤ f.steps) (h1 : f.steps < 9223372036854775807) (hle : f.left ≤ 9223372036854775807) :
    Calls Tryz.prog 102 #[.pointer (some ⟨g, 0, none⟩), .int .i64 si] w (ProgOk g (f.erase s) w) := by
  subst hsi; exact erase_ok g s f w hf hd hs he hwm h0 h1 hle
set_option maxRecDepth 100000 in
set_option maxHeartbeats 1600000 in
theorem prepw_any (P : Nat → Prop) (gw gf s : Nat) (x : Wh) (f : Fl) (K : Int) (w : World) (hW : WhAt P gw gf x w) (hf : FlAt w gf f) (hd : f.down = false) (hs : s < 8) (hok : f.Ok K) (hK : K ≤ 1000000) :
    Calls Tryz.prog 67 #[.pointer (some ⟨gw, 0, none⟩), .int .i64 (s : Int)] w (PrepOk P gw gf s x (f.prepW x.ready s) w) := by
  have HW := Lib.hid hW
  have HF := Lib.hid hf
  obtain ⟨A, n, c, es, hg, hPg, hPf, -, -⟩ := hW
  obtain ⟨u0, -, -, -, u4, -, -, f4, -⟩ := wc6 hg
  have HG := Lib.hid hg
  have hne : gw ≠ gf := fun e => hPf (by rw [← e]; exact hPg)
  have HNE := Lib.hid hne
  have HPG := Lib.hid hPg
  by_cases hr : (s : Int) = x.ready
  · have HPR : Hid (f.prepW x.ready s = (f, 0)) := by show _ = _; unfold Fl.prepW; rw [if_pos hr]
    have hh : ({ x with ready := (s : Int) } : Wh) = x := by rw [hr]
    have HH := Lib.hid hh
    have hb : ((s : Int) == x.ready) = true := by simpa using hr
    rw [HPR.out]
    generalize x.ready = rd at *
    clear hr hh hg
    go_enter Tryz.func67, Tryz.ntmps67
    go_wp2_with fail
    go_ret
    refine ⟨rfl, Lib.hid ?_, HF, Frm.refl _ _⟩
    rw [if_pos rfl, HH.out]; exact HW.out
  · have hb : ((s : Int) == x.ready) = false := by simpa using hr
    have hs7 : (s : Int) ≤ 7 := by omega
    have HST := Lib.hid (still_of (wstart_any s (s : Int) w.drew rfl (by omega)))
    have HBK := Lib.hid (blank_at (g := gf) (a := 256 * (6 + s)) (n := 256) (((256 * (6 + s) : Nat)) : Int) 256 rfl rfl (show FlAt w.drew gf f from hf) hd (by omega))
    have HER := Lib.hid (fun W (hW : FlAt W gf f) => erase_at gf (6 + s) (6 + (s : Int)) (by omega) f W hW hd (by omega) (hok.2.2.2.1 _) (by have := hok.2.2.2.2; omega) (by have := hok.1; omega) (by have := hok.2.1; omega) hok.2.2.1.2)
    have HPR : Hid (f.prepW x.ready s = if allFF (f.sub (256 * (6 + s)) 256) then (f, 0) else f.erase (6 + s)) := by show _ = _; unfold Fl.prepW; rw [if_neg hr]
    rw [HPR.out]
    generalize x.ready = rd at *
    clear hr hg hd hok hf
    cases hff : allFF (f.sub (256 * (6 + s)) 256) with
    | true =>
      rw [hff] at HBK
      rw [if_pos rfl]
      clear hff
      go_enter Tryz.func67, Tryz.ntmps67
      go_wp2_with fail
      refine wp_region_still_tail 6 (by kernel_rfl) (by kernel_rfl) ?_
      simp only [List.take_succ_cons, List.take_zero, List.drop_succ_cons, List.drop_zero]
      repeat still_step
      still_call HST.out
      repeat still_step
      refine wpStill_nil ?_
      change wpList _ _ _ _ _ w.drew
      go_wp2_with fail
      refine HBK.out.mono ?_
      rintro e w1 ⟨rfl, hb1⟩
      have HB1 : Hid (Below w.heap.size w w1) := (Below.refl w.heap.size w).drew.trans hb1.out
      have hg1 := (HB1.out.block gw HW.out.lt).trans HG.out
      obtain ⟨-, -, -, -, y4, -, -, z4, -⟩ := wc6 hg1
      have HW1 := Lib.hid ((HW.out.below HB1.out).ready (s : Int))
      have HF1 := Lib.hid ((HF.out.below HB1.out).grown (grown_set w1 gw 4 (.int .i64 (s : Int))) (by intro e; injection e with e; exact HNE.out e))
      clear hg1 hb1
      go_wp2_with fail
      go_ret
      refine ⟨rfl, Lib.hid ?_, HF1, (Frm.of_below (F := fun b => P b ∨ b = gf) HB1.out).trans (Frm.of_grown (F := fun b => b = gw) (grown_set w1 gw 4 _) (fun g h _ => by injection h with h; exact h.symm)) (fun _ _ e => .inl (by rw [e]; exact HPG.out))⟩
      rw [if_pos rfl]; exact HW1.out
    | false =>
      rw [hff] at HBK
      rw [if_neg (by decide)]
      obtain ⟨f1, r1, hE⟩ : ∃ f1 r1, f.erase (6 + s) = (f1, r1) := ⟨_, _, rfl⟩
      simp only [hE] at HER
      rw [hE]
      clear hff hE HPR
      go_enter Tryz.func67, Tryz.ntmps67
      go_wp2_with fail
      refine wp_region_still_tail 6 (by kernel_rfl) (by kernel_rfl) ?_
      simp only [List.take_succ_cons, List.take_zero, List.drop_succ_cons, List.drop_zero]
      repeat still_step
      still_call HST.out
      repeat still_step
      refine wpStill_nil ?_
      change wpList _ _ _ _ _ w.drew
      go_wp2_with fail
      refine HBK.out.mono ?_
      rintro e w1 ⟨rfl, hb1⟩
      have HB1 : Hid (Below w.heap.size w w1) := (Below.refl w.heap.size w).drew.trans hb1.out
      have hg1 := (HB1.out.block gw HW.out.lt).trans HG.out
      obtain ⟨y0, -⟩ := wc6 hg1
      have HER1 := Lib.hid (HER.out w1 (HF.out.below HB1.out))
      have HW1 := Lib.hid (HW.out.below HB1.out)
      clear hg1 hb1 HER
      go_wp2_with fail
      refine HER1.out.mono ?_
      rintro e w2 ⟨rfl, hd2⟩
      dsimp only
      have HFR2 : Hid (Frm w w2 (fun b => P b ∨ b = gf)) := (Frm.of_below HB1.out).trans (Frm.of_grown (F := fun b => b = gf) hd2.out.2 (fun g h _ => by injection h with h; exact h.symm)) (fun _ _ h => .inr h)
      have HF2 := Lib.hid hd2.out.1
      have HW2 : Hid (WhAt P gw gf x w2) := HW1.out.keep (fun b hb hl => hd2.out.2.block b hl (fun e => hPf (by injection e with e; rw [← e]; exact hb))) hd2.out.2.size
      by_cases h0 : r1 = 0
      · subst h0
        have hg2 := (hd2.out.2.block gw (HW1.out.lt) (fun e => by injection e with e; exact HNE.out e)).trans ((HB1.out.block gw HW.out.lt).trans HG.out)
        obtain ⟨-, -, -, -, y4, -, -, z4, -⟩ := wc6 hg2
        have HW3 := Lib.hid (HW2.out.ready (s : Int))
        have HF3 := Lib.hid (HF2.out.grown (grown_set w2 gw 4 (.int .i64 (s : Int))) (by intro e; injection e with e; exact HNE.out e))
        clear hg2 hd2 HER1 y0
        go_wp2_with fail
        go_ret
        refine ⟨rfl, Lib.hid ?_, HF3, HFR2.out.trans (Frm.of_grown (F := fun b => b = gw) (grown_set w2 gw 4 _) (fun g h _ => by injection h with h; exact h.symm)) (fun _ _ e => .inl (by rw [e]; exact HPG.out))⟩
        rw [if_pos rfl]; exact HW3.out
      · have h0' : (r1 != 0) = true := by simpa using h0
        have HN0 := Lib.hid h0
        clear h0 hd2 HER1 y0
        go_wp2_with fail
        go_ret
        refine ⟨rfl, Lib.hid ?_, HF2, HFR2⟩
        rw [if_neg (show ¬ (f1, r1).2 = 0 from HN0.out)]; exact HW2.out
set_option maxRecDepth 100000 in
set_option maxHeartbeats 800000 in
theorem wadd_any (base n x : Nat) (v : Value) (l : List UInt8) (w : World) (hown : w.ownsRow base 5 1 v n (bv l)) (hb : base ≤ w.heap.size) (hn : n ≤ 1000) (hx : x < 4294967296) :
    Calls Tryz.prog 103 #[v, .int .u32 (x : Int)] w fun e w' => ∃ A c, e = .returned (.slice A (n + 4) c) ∧ Hid (w'.ownsRow base 5 1 (.slice A (n + 4) c) (n + 4) (bv (l ++ CrcM.four x))) ∧ Hid (Below base w w') := by
  obtain ⟨i0, hi, hz0, hz1, hz2⟩ := info_parts Tryz.info5
  obtain ⟨A0, c0, rfl, _⟩ := own_slice hown
  have ev := four_cells x hx
  have HEV := Lib.hid ev
  clear ev
  go_enter Tryz.func103, Tryz.ntmps103
  go_wp2_with (at_builtin; (refine wpList_app rfl (.tmp 5) (.tmp 17) 23 rfl base 5 i0 (.int .u8 0) 1 Tryz.underlying23 hi hz0 hz1 hz2 rfl _ n (bv l) rfl (hown.alloc _) _ _ 4 4 _ rfl (row_new w _ _ _) (by intro u hu; simp at hu; rcases hu with rfl | rfl | rfl | rfl <;> rfl) (by unfold maxLen; omega) (by omega) (by simp; omega) ?_; intro v3 w3 hown3 hg3 hat3))
  obtain ⟨A3, c3, rfl, _⟩ := own_slice hown3
  go_ret
  refine ⟨A3, c3, rfl, ?_, below_app ((Below.refl base w).alloc hb _) (by simp; omega) (hown.alloc _) (Nat.le_refl _) hg3⟩
  rw [bv_append, ← HEV.out]
  exact hown3
set_option maxRecDepth 100000 in
set_option maxHeartbeats 3200000 in
theorem wprog_any (P : Nat → Prop) (gw gf id B cap : Nat) (A : Option Addr) (x : Wh) (d : List UInt8) (f : Fl) (K : Int) (w : World) (hW : WhAt P gw gf x w) (hf : FlAt w gf f) (hd : f.down = false) (ok : x.Ok) (hnx : x.next < 8 * x.per) (hok : f.Ok K) (hK : K ≤ 1000000)
    (hl : Row w B A x.size (bv d)) (hA : ∀ b o, A = some ⟨b, o, none⟩ → b ≠ gf) (hB : B ≤ w.heap.size) (hid : id < 4294967296) :
    Calls Tryz.prog 69 #[.pointer (some ⟨gw, 0, none⟩), .int .u32 (id : Int), .slice A x.size cap] w (ProgOk gf (f.prog (x.at_ x.next) (wrec x.gen id d)) w) := by
  obtain ⟨i0, hi, hz0, hz1, hz2⟩ := info_parts Tryz.info5
  have HBL := Lib.hid hl.blen
  have HW := Lib.hid hW
  have HF := Lib.hid hf
  have HFL := Lib.hid hf.lt
  have HL := Lib.hid hl
  have HA := Lib.hid hA
  have HG0 := Lib.hid ok.gen
  obtain ⟨Aw, nw, cw, es, hg, hPg, hPf, -, -⟩ := hW
  have HGL := Lib.hid ((Array.getElem?_eq_some_iff.1 hg).1)
  have hne : gw ≠ gf := fun e => hPf (by rw [← e]; exact hPg)
  have HNE := Lib.hid hne
  have HC : Hid (∀ W : World, W.heap[gw]? = w.heap[gw]? → W.heap[gw]? = some (.cells (wcells gf x (.slice Aw nw cw)) 122 (0, 0))) := fun W hW => hW.trans hg
  obtain ⟨hp8, hp18, hpm⟩ := per_bounds ok.size1 ok.size2
  have HWI := Lib.hid (fun W (hc : W.cell? ⟨gw, 2, none⟩ = some (.int .i64 (x.size : Int))) => wwide_any gw x.size W hc ok.size2)
  have HPE := Lib.hid (fun W (hc : W.cell? ⟨gw, 2, none⟩ = some (.int .i64 (x.size : Int))) => wper_any gw x.size W hc ok.size1 ok.size2)
  have hs1 := ok.size1
  have hs2 := ok.size2
  have hat : x.at_ x.next = 256 * (6 + x.next / (256 / (x.size + 13))) + x.next % (256 / (x.size + 13)) * (x.size + 13) := rfl
  have hnx2 : x.next < 8 * (256 / (x.size + 13)) := hnx
  obtain ⟨wd, hwd⟩ : ∃ wd, x.size + 13 = wd := ⟨_, rfl⟩
  rw [hwd] at hp8 hp18 hpm HWI HPE hat hnx2
  obtain ⟨pr, hpr⟩ : ∃ pr, 256 / wd = pr := ⟨_, rfl⟩
  rw [hpr] at hp8 hp18 hpm HPE hat hnx2
  obtain ⟨qs, hqs⟩ : ∃ qs, x.next / pr = qs := ⟨_, rfl⟩
  obtain ⟨qr, hqr⟩ : ∃ qr, x.next % pr = qr := ⟨_, rfl⟩
  have hqs8 : qs < 8 := by rw [← hqs]; exact Nat.div_lt_of_lt_mul (by rw [Nat.mul_comm]; exact hnx2)
  have hqrp : qr < pr := by rw [← hqr]; exact Nat.mod_lt _ (by omega)
  obtain ⟨qw, hqw⟩ : ∃ qw, qr * wd = qw := ⟨_, rfl⟩
  have hqwb : qw + wd ≤ 256 := by
    rw [← hqw, ← Nat.succ_mul]
    exact Nat.le_trans (Nat.mul_le_mul_right wd hqrp) hpm
  rw [hqs, hqr, hqw] at hat
  have HAT := Lib.hid hat
  have hqsi0 : (x.next : Int) / (pr : Int) = (qs : Int) := by rw [← hqs]; rfl
  have HQS : Hid (IntKind.i64.wrap ((x.next : Int) / (pr : Int)) = (qs : Int)) := by show _ = _; rw [hqsi0]; exact IntWalk.i64_in _ ⟨by omega, by omega⟩
  have HQR : Hid ((x.next : Int).tmod (pr : Int) = (qr : Int)) := by show _ = _; rw [← hqr]; rfl
  clear hqsi0
  have HQW : Hid (IntKind.i64.wrap ((qr : Int) * (wd : Int)) = (qw : Int)) := by
    show _ = _
    rw [show (qr : Int) * (wd : Int) = (qw : Int) by rw [← hqw]; push_cast; rfl]
    exact IntWalk.i64_in _ ⟨by omega, by omega⟩
  have HSZ : Hid (x.size + 13 = wd) := hwd
  have HRES : Hid (f.prog (x.at_ x.next) (wrec x.gen id d) = if (f.prog (x.at_ x.next) (CrcM.put (wmsg x.gen id d))).2 = 0 then (f.prog (x.at_ x.next) (CrcM.put (wmsg x.gen id d))).1.prog (x.at_ x.next + (x.size + 12)) [0] else f.prog (x.at_ x.next) (CrcM.put (wmsg x.gen id d))) := by
    show _ = _
    unfold wrec
    rw [Fl.prog_append, CrcM.put_length, wmsg_length, hl.blen]
  have HDS := Lib.hid (fun hh => (prog_down_same f (x.at_ x.next) (CrcM.put (wmsg x.gen id d)) hh).trans hd)
  have HOKP := Lib.hid (hok.prog (CrcM.put (wmsg x.gen id d)) (x.at_ x.next))
  have HD0 := Lib.hid hd
  have HOK0 := Lib.hid hok
  have HML : Hid ((CrcM.put (wmsg x.gen id d)).length = x.size + 12) := by show _ = _; rw [CrcM.put_length, wmsg_length, hl.blen]
  have hat2 : x.at_ x.next = 256 * (6 + qs) + qw := hat
  obtain ⟨f1, r1, hE⟩ : ∃ f1 r1, f.prog (x.at_ x.next) (CrcM.put (wmsg x.gen id d)) = (f1, r1) := ⟨_, _, rfl⟩
  rw [hE] at HRES HDS HOKP
  obtain ⟨R, hR⟩ : ∃ R, f.prog (x.at_ x.next) (wrec x.gen id d) = R := ⟨_, rfl⟩
  rw [hR] at HRES ⊢
  have HE := Lib.hid hE
  generalize x.at_ x.next = at0 at *
  clear hE hf hl hA hd hok hg hat hwd hpr hqs hqr hqw hR
  obtain ⟨u0, u1, u2, -, -, u5, -, -, -⟩ := wc6 (HC.out w rfl)
  have HWI0 := Lib.hid (HWI.out w u2)
  clear u0 u1 u2 u5
  generalize hsz : x.size = sz at *
  have HSZ2 := Lib.hid hsz
  generalize hgn : x.gen = gn at *
  have HGN := Lib.hid hgn
  generalize hnn : x.next = nn at *
  have HNN := Lib.hid hnn
  clear hsz hgn hnn
  go_enter Tryz.func69, Tryz.ntmps69
  go_wp2_with fail
  refine HWI0.out.mono ?_
  rintro e w' ⟨rfl, rfl⟩
  clear HWI0
  go_wp2_with (at_make; refine wpList_make_own _ rfl _ _ 23 rfl w.heap.size 5 i0 (.int .u8 0) 1 Tryz.underlying23 hi hz0 hz1 .i64 .i64 (wd : Int) wd rfl rfl rfl (by rw [hz2]; omega) (by unfold maxLen; omega) (Nat.le_refl _) ?_; intro w1 hown1 hg1; have HB1 : Hid (Below w.heap.size w w1) := (Below.refl _ _).grown hg1 (Nat.le_refl _) (by intro g h; cases h); have u := wc6 (HC.out w1 (HB1.out.block gw HGL.out)); have u1 := u.2.1; rw [HGN.out] at u1; clear u)
  have HAD1 := Lib.hid (wadd_any w.heap.size 0 gn _ [] w1 hown1 HB1.out.size (by omega) HG0.out)
  clear hown1 hg1
  refine HAD1.out.mono ?_
  rintro e w2 ⟨A2, c2, rfl, hown2, hb2⟩
  have HB2 : Hid (Below w.heap.size w w2) := HB1.out.trans hb2.out
  have HAD2 := Lib.hid (wadd_any w.heap.size 4 id _ _ w2 hown2.out HB2.out.size (by omega) hid)
  clear HAD1 u1 hb2 hown2 HB1
  go_wp2_with fail
  refine HAD2.out.mono ?_
  rintro e w3 ⟨A3, c3, rfl, hown3, hb3⟩
  have HB3 : Hid (Below w.heap.size w w3) := HB2.out.trans hb3.out
  have HO3 : Hid (w3.ownsRow w.heap.size 5 1 (.slice A3 8 c3) 8 (bv (CrcM.four gn ++ CrcM.four id))) := Lib.hid (by have := hown3.out; simpa using this)
  clear HAD2 hb3 hown3 HB2
  go_wp2_with (at_builtin; refine wpList_app rfl (.tmp 22) (.tmp 23) 23 rfl w.heap.size 5 i0 (.int .u8 0) 1 Tryz.underlying23 hi hz0 hz1 hz2 rfl _ 8 _ rfl HO3.out B A sz cap (bv d) rfl (HL.out.below (HB3.out.mono hB)) (bv_one d) (by unfold maxLen; omega) (by omega) HB3.out.size ?_; intro v4 w4 hown4 hg4 hat4)
  have HB4 : Hid (Below w.heap.size w w4) := below_app HB3.out HB3.out.size HO3.out (Nat.le_refl _) hg4
  obtain ⟨A4, c4, rfl, _⟩ := own_slice hown4
  rw [← bv_append] at hown4
  have HR4 := Lib.hid (Row.of_own hown4)
  have hmsg : (CrcM.four gn ++ CrcM.four id) ++ d = wmsg gn id d := by unfold wmsg; rw [List.append_assoc]
  rw [hmsg] at HR4
  clear hown4 hg4 hat4 HO3 HB3 hmsg
  go_wp2_with fail
  refine (put_any w4.heap.size _ c4 A4 (wmsg gn id d) w4 HR4.out (by omega) (Nat.le_refl _)).mono ?_
  rintro e w5 ⟨A5, n5, c5, rfl, hn5, hown5, hb5⟩
  obtain rfl : n5 = sz + 12 := by
    have e1 : (wmsg gn id d ++ CrcM.four (CrcM.sum (wmsg gn id d))).length = sz + 12 := HML.out
    rw [hn5, e1]
  have HR5 : Hid (Row w5 w5.heap.size A5 (sz + 12) (bv (CrcM.put (wmsg gn id d)))) := Row.of_own hown5
  have HA5 : Hid (∀ b o, A5 = some ⟨b, o, none⟩ → b ≠ gf) := by
    intro b' o' e
    obtain ⟨g2, c22, hv, hg2, _⟩ := hown5.form (by omega)
    injection hv with e1 e2 e3
    rw [e] at e1
    injection e1 with e1
    injection e1 with e1
    have := HFL.out
    have := HB4.out.size
    omega
  have HB5 : Hid (Below w.heap.size w w5) := HB4.out.trans (hb5.mono HB4.out.size)
  have HF5 := Lib.hid (HF.out.below HB5.out)
  have HC5 := Lib.hid (HC.out w5 (HB5.out.block gw HGL.out))
  have u := wc6 HC5.out
  have u2 := u.2.2.1
  rw [HSZ2.out] at u2
  have u5 := u.2.2.2.2.2.1
  rw [HNN.out] at u5
  have HWIQ := Lib.hid (still_of (HWI.out w5.drew u2))
  have HPEQ := Lib.hid (still_of (HPE.out w5.drew u2))
  have HSTQ := Lib.hid (still_of (wstart_any qs (qs : Int) w5.drew rfl (by omega)))
  have hq1 := HQS.out
  have hq0 : ¬ pr = 0 := by omega
  have hqwi : (qw : Int) ≤ 256 := by omega
  have hqsi : (qs : Int) ≤ 7 := by omega
  have HAI : Hid (IntKind.i64.wrap (256 * (6 + (qs : Int)) + (qw : Int)) = (at0 : Int)) := by
    show _ = _
    rw [show 256 * (6 + (qs : Int)) + (qw : Int) = (at0 : Int) by omega]
    exact IntWalk.i64_in _ ⟨by omega, by omega⟩
  clear u hn5 hown5 hb5 HR4 HB4 HF HL HA
  go_wp2_with fail
  refine wp_region_still_tail 19 (by kernel_rfl) (by kernel_rfl) ?_
  simp only [List.take_succ_cons, List.take_zero, List.drop_succ_cons, List.drop_zero]
  repeat still_step
  still_call HPEQ.out
  repeat still_step
  still_call HSTQ.out
  repeat still_step
  still_call HPEQ.out
  repeat still_step
  still_call HWIQ.out
  repeat still_step
  refine wpStill_nil ?_
  change wpList _ _ _ _ _ w5.drew
  rw [HQR.out, HQW.out, HAI.out]
  obtain ⟨W5, hW5⟩ : ∃ W5, w5.drew = W5 := ⟨_, rfl⟩
  have HB5d : Hid (Below w.heap.size w W5) := by rw [← hW5]; exact HB5.out.drew
  have HR5d : Hid (Row W5 W5.heap.size A5 (sz + 12) (bv (CrcM.put (wmsg gn id d)))) := by rw [← hW5]; exact HR5.out.drew
  have HF5d : Hid (FlAt W5 gf f) := by rw [← hW5]; exact HF5.out
  have HC5d := Lib.hid (HC.out W5 (HB5d.out.block gw HGL.out))
  rw [hW5]
  have hat512 : at0 + (sz + 13) ≤ 3584 := by have := HSZ.out; omega
  have hsz16 : (sz : Int) ≤ 16 := by omega
  have hat35 : (at0 : Int) ≤ 3584 := by omega
  have HP := Lib.hid (prog_at (g := gf) (a := at0) (n := sz + 12) (B := W5.heap.size) (cap := c5) (A := A5) (l := CrcM.put (wmsg gn id d)) (f := f) (w := W5) (at0 : Int) rfl HF5d.out HR5d.out (fun _ => HA5.out) (Nat.le_refl _) HD0.out (by omega) (by have := HOK0.out.1; omega) (by have := HOK0.out.2.1; omega) HOK0.out.2.2.1)
  rw [HE.out] at HP
  have uu := (wc6 HC5d.out).1
  clear hat2 hW5 HPEQ HSTQ HWIQ u2 u5 hq1 hq0 HQR HQW HQS HAI HB5 HR5 HF5 HC5
  go_wp2_with fail
  refine HP.out.mono ?_
  rintro e w6 ⟨rfl, hd6⟩
  have HG6 : Hid (w.grownBy w6 (some gf)) := grown_of_below HB5d.out hd6.out.2
  have HF6 := Lib.hid hd6.out.1
  have HC6 := Lib.hid (HC.out w6 (HG6.out.block gw HGL.out (fun e => HNE.out (by injection e with e))))
  clear hd6 HP HR5d HF5d HC5d uu
  dsimp only
  by_cases h0 : r1 = 0
  · subst h0
    have hd1 := HDS.out rfl
    have HRE : Hid (R = f1.prog (at0 + (sz + 12)) [0]) := by show _ = _; rw [HRES.out, if_pos rfl]
    have hba : Below w6.heap.size w6 (w6.alloc (.cells #[.int .u8 0] 5)) := (Below.refl _ _).alloc (Nat.le_refl _) _
    have HF7 := Lib.hid (HF6.out.below hba)
    have hgl6 : gf < w6.heap.size := HF6.out.lt
    have HP := Lib.hid (prog_at (g := gf) (a := at0 + (sz + 12)) (n := 1) (B := w6.heap.size + 1) (cap := 1) (A := some ⟨w6.heap.size, 0, none⟩) (l := [0]) (f := f1) (w := w6.alloc (.cells #[.int .u8 0] 5)) ((at0 : Int) + ((sz : Int) + 12)) (by push_cast; omega) HF7.out (row_new w6 #[.int .u8 0] 5 (0, 0)) (by intro _ b o h; injection h with h; injection h with h; omega) (by simp) hd1 (by omega) (by have := HOKP.out.1; omega) (by have := HOKP.out.2.1; have := HML.out; omega) HOKP.out.2.2.1)
    have HG7 : Hid (w.grownBy (w6.alloc (.cells #[.int .u8 0] 5)) (some gf)) := HG6.out.trans (grown_of_alloc _ _ _)
    have uu := (wc6 HC6.out).1
    clear hd1 hba HF7 HF6 HG6 HC6
    go_wp2_with fail
    refine HP.out.mono ?_
    rintro e w8 ⟨rfl, hd8⟩
    go_wp2_with fail
    go_ret
    refine ⟨?_, ?_⟩
    · rw [HRE.out]; rfl
    · rw [HRE.out]; exact ⟨hd8.out.1, HG7.out.trans hd8.out.2⟩
  · have h0' : (r1 != 0) = true := by simpa using h0
    have HRE : Hid (R = (f1, r1)) := by show _ = _; rw [HRES.out, if_neg h0]
    clear h0
    go_wp2_with fail
    go_ret
    refine ⟨?_, ?_⟩
    · rw [HRE.out]; rfl
    · rw [HRE.out]; exact ⟨HF6.out, HG6.out⟩
end Go.Proofs.YtoblapnnpjgpnaaGreatDoor
