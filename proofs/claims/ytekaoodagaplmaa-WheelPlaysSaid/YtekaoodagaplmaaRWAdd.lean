/- The reference's wheel: Add that writes: by contract. -/
import Derived.Test.YtekaoodagaplmaaRWh
import Derived.Test.YtekaoodagaplmaaR1Put
import Derived.Test.YtekaoodagaplmaaWhAdd
namespace Go.Proofs.Ytekaoodagaplmaa
open Go.RowKit
theorem rdone_refl {gm gB : Nat} {f : Fl} {w : World} (h : RfAt w gm gB f) : RDone gm gB f w w := ⟨h, Gr2.refl _ _ _⟩
theorem rdone_after {gm gB : Nat} {f : Fl} {w w1 w2 : World} (hb : Below w.heap.size w w1) (h : RDone gm gB f w1 w2) : RDone gm gB f w w2 :=
  ⟨h.1, ((Gr2.refl gm gB w).below hb).trans h.2⟩
theorem rblank_at {gm gB : Nat} {f : Fl} {w : World} (a n : Nat) (ai ni : Int) (h1 : ai = (a : Int)) (h2 : ni = (n : Int)) (hf : RfAt w gm gB f) (hd : f.down = false) (h : a + n ≤ 3584) :
    Calls Try.prog 29 #[.pointer (some ⟨gm, 0, none⟩), .int .i64 ai, .int .i64 ni] w fun e w' => e = .returned (.bool (allFF (f.sub a n))) ∧ Hid (Below w.heap.size w w') := by
  subst h1 h2
  exact rblank_ok gm gB a n f w hf hd h
/-- a sector made ready, as data -/
def Fl.clear1 (f : Fl) (s : Nat) : Fl × Int := if allFF (f.sub (256 * s) 256) then (f, 0) else f.erase s
set_option maxRecDepth 100000 in
theorem rclear_w (gm gB s : Nat) (f : Fl) (w : World) (K si : Int) (hsi : si = (s : Int)) (hf : RfAt w gm gB f) (hd : f.down = false) (hs : s < 14) (hok : f.Ok K) (hK : K ≤ 2000000) :
    Calls Try.prog 36 #[.pointer (some ⟨gm, 0, none⟩), .int .i64 si] w (RProgOk gm gB (f.clear1 s) w) := by
  subst hsi
  have HB := Lib.hid (fun ai (hai : ai = ((256 * s : Nat) : Int)) => rblank_at (gm := gm) (gB := gB) (w := w) (256 * s) 256 ai 256 hai rfl hf hd (by omega))
  have HE := Lib.hid (fun W (hW : RfAt W gm gB f) => rerase_ok gm gB s f W hW hd hs (hok.2.2.2.1 s) (by have := hok.2.2.2.2; omega) (by have := hok.1; omega) (by have := hok.2.1; omega))
  have HF := Lib.hid hf
  have HC : Hid (f.clear1 s = if allFF (f.sub (256 * s) 256) then (f, 0) else f.erase s) := rfl
  clear hf hok
  cases hff : allFF (f.sub (256 * s) 256) with
  | true =>
    rw [hff] at HB HC
    have HC1 : Hid (f.clear1 s = (f, 0)) := HC
    clear HC hff
    go_enter Try.func36, Try.ntmps36
    go_wp2_with fail
    refine (HB.out _ (by push_cast; omega)).mono ?_
    rintro e w1 ⟨rfl, hb⟩
    go_wp2_with fail
    go_ret
    exact ⟨by rw [HC1.out]; rfl, by rw [HC1.out]; exact rdone_after hb.out (rdone_refl (HF.out.below hb.out))⟩
  | false =>
    rw [hff] at HB HC
    have HC1 : Hid (f.clear1 s = f.erase s) := HC
    clear HC hff
    go_enter Try.func36, Try.ntmps36
    go_wp2_with fail
    refine (HB.out _ (by push_cast; omega)).mono ?_
    rintro e w1 ⟨rfl, hb⟩
    go_wp2_with fail
    refine (HE.out w1 (HF.out.below hb.out)).mono ?_
    rintro e w2 ⟨rfl, hd2⟩
    go_wp2_with fail
    go_ret
    exact ⟨by rw [HC1.out]; rfl, by rw [HC1.out]; exact rdone_after hb.out hd2.out⟩
theorem RfAt.keep {W W' : World} {gm gB : Nat} {f : Fl} (h : RfAt W gm gB f) (e1 : W'.heap[gm]? = W.heap[gm]?) (e2 : W'.heap[gB]? = W.heap[gB]?) : RfAt W' gm gB f := by
  obtain ⟨q1, q2, fu, fz, q3, q4⟩ := h
  exact ⟨q1, q2.keep e2, fu, fz, q3, q4.keep e1⟩
theorem RfAt.ltm {W : World} {gm gB : Nat} {f : Fl} (h : RfAt W gm gB f) : gm < W.heap.size := by obtain ⟨_, _, fu, fz, _, h4⟩ := h; exact h4.lt
theorem RfAt.ltB {W : World} {gm gB : Nat} {f : Fl} (h : RfAt W gm gB f) : gB < W.heap.size := h.2.1.lt
theorem rprog_ai (gm gB a B n cap : Nat) (ai : Int) (hai : ai = (a : Int)) (A : Option Addr) (l : List UInt8) (f : Fl) (w : World) (hf : RfAt w gm gB f) (hl : Row w B A n (bv l)) (hA : 0 < n → ∀ b o, A = some ⟨b, o, none⟩ → b ≠ gm ∧ b ≠ gB) (hB : B ≤ w.heap.size) (hd : f.down = false) (ha : a + n ≤ 3584)
    (h0 : 0 ≤ f.steps) (h1 : f.steps ≤ 9223372036854770000) :
    Calls Try.prog 40 #[.pointer (some ⟨gm, 0, none⟩), .int .i64 ai, .slice A n cap] w (RProgOk gm gB (f.prog a l) w) := by
  subst hai; exact rprog_ok gm gB a B n cap A l f w hf hl hA hB hd ha h0 h1
theorem row_boxW {W : World} {g : Nat} {cs : Array Value} {t : TypeId} (h : W.heap[g]? = some (.cells cs t (0, 0))) : Row W W.heap.size (some ⟨g, 0, none⟩) cs.size cs.toList := by
  refine ⟨by simp, fun _ => ⟨g, 0, rfl, (Array.getElem?_eq_some_iff.1 h).1, fun j v hv => ?_⟩⟩
  rw [Nat.zero_add, cell_of_row W g j cs t (0, 0) h]
  simpa using hv
theorem join_boxW {W : World} {g : Nat} (es : List BRow) (k : Nat) (hk : es.length = k) {cs : Array Value} (hc : cs = (es.map BRow.val).toArray) (hg : W.heap[g]? = some (.cells cs 37 (0, 0))) (hr : ∀ r ∈ es, Row W W.heap.size r.A r.n (bv r.l)) (hn : es.length ≤ 1000) (hm : (flat es).length ≤ 1000000) {l : List UInt8} (hl : flat es = l) :
    Calls Try.prog 38 #[.slice (some ⟨g, 0, none⟩) k k] W (FreshBytes W.heap.size l W) := by
  subst hk hl hc
  have h1 := row_boxW hg
  refine join_any W.heap.size es.length es.length (some ⟨g, 0, none⟩) es W ⟨?_, hr⟩ (by omega) (by omega) (Nat.le_refl _)
  simpa using h1
/-- the reference's wheel and flash behind a call, and what it wrote -/
def RF (P : Nat → Prop) (gm gB : Nat) : Nat → Prop := fun b => P b ∨ b = gm ∨ b = gB
def RAddOk (P : Nat → Prop) (gr gm gB : Nat) (r : Wh × Fl × Int) (w : World) (e : Ending) (w' : World) : Prop :=
  e = .returned (.int .i64 r.2.2) ∧ Hid (RWhAt (Pn P w w') gr gm gB r.1 w') ∧ Hid (RfAt w' gm gB r.2.1) ∧ Hid (Frm w w' (RF P gm gB))
theorem RWhAt.pn {P : Nat → Prop} {gr gm gB : Nat} {h : Wh} {w W : World} (a : RWhAt P gr gm gB h W) (h1 : gm < w.heap.size) (h2 : gB < w.heap.size) : RWhAt (Pn P w W) gr gm gB h W := by
  have h3 := a
  obtain ⟨_, _, _, _, _, _, q1, q2, _⟩ := h3
  refine a.more (fun b hb => .inl hb) ?_ ?_
  · rintro (h | h)
    · exact q1 h
    · omega
  · rintro (h | h)
    · exact q2 h
    · omega
theorem rwh_grow {P : Nat → Prop} {gr gm gB n rid rg rm rc : Nat} {h : Wh} {w W w4 : World} {v v4 : Value} {es : List RRow} {d : List UInt8}
    (hgw : W.heap[gr]? = some (.cells (rwcells gm h v) 47 (0, 0))) (hP : P gr) (hPm : ¬ P gm) (hPB : ¬ P gB) (hgm : gm < w.heap.size) (hgB : gB < w.heap.size) (hw : w.heap.size ≤ W.heap.size)
    (hrec : RecW (fun b => P b ∧ b ≠ gr) W v n es) (hes : es.map RRow.pair = h.L) (hr : RNew w gr v rg 0 rm d W)
    (hown : w4.ownsRow 0 77 2 v4 (n + 1) (rcells es ++ [.int .u32 (rid : Int), .slice (some ⟨rg, 0, none⟩) rm rc])) (hg : W.grownBy w4 v.ownBlock) (hat : v4.ownBlock = v.ownBlock ∨ v4.ownBlock = some W.heap.size) :
    w4.heap[gr]? = some (.cells (rwcells gm h v) 47 (0, 0)) ∧ RWhAt (Pn P w w4) gr gm gB { h with L := h.L ++ [(rid, d)] } (w4.setCell ⟨gr, 3, none⟩ v4) := by
  have hs := hg.size
  refine RWhAt.app (P := P) (P' := Pn P w w4) (r := ⟨rid, some ⟨rg, 0, none⟩, rm, rc, d⟩) hgw hP ?_ ?_ hrec hes ⟨rg, 0, rfl, ⟨.inr ⟨hr.1, Nat.lt_of_lt_of_le hr.2.1 hs⟩, hr.2.2.1⟩, hr.2.1, hr.2.2.2.1, hr.2.2.2.2⟩ hown hg hat (fun b hb => .inl hb) ?_
  · rintro (h | h)
    · exact hPm h
    · omega
  · rintro (h | h)
    · exact hPB h
    · omega
  · intro e
    refine .inr ⟨hw, ?_⟩
    rcases hown.2 with ⟨hv, h0⟩ | ⟨g, cap, cur, hv, _, hgc, _⟩
    · omega
    · rw [hv] at e
      injection e with e
      rw [← e]
      exact (Array.getElem?_eq_some_iff.1 hgc).1
theorem frm_gr2 {P : Nat → Prop} {gm gB : Nat} {w w' : World} (h : Gr2 gm gB w w') : Frm w w' (RF P gm gB) :=
  ⟨h.os, h.tape, h.output, h.size, fun b hb hn => h.block b hb (fun e => hn (.inr (.inl e))) (fun e => hn (.inr (.inr e)))⟩
set_option maxRecDepth 100000 in
set_option maxHeartbeats 12800000 in
theorem radd_in (P : Nat → Prop) (gr gm gB id B cap : Nat) (A : Option Addr) (x : Wh) (d : List UInt8) (f : Fl) (K : Int) (w : World) (hW : RWhAt P gr gm gB x w) (hf : RfAt w gm gB f) (ok : x.Ok) (hok : f.Ok K) (hK : K ≤ 900000) (hnx : x.next < 8 * x.per) (hdn : f.down = false)
    (hl : Row w B A x.size (bv d)) (hA : ∀ b o, A = some ⟨b, o, none⟩ → b ≠ gm ∧ b ≠ gB ∧ ¬ P b) (hB : B ≤ w.heap.size) (hid : id < 4294967296) :
    Calls Try.prog 13 #[.pointer (some ⟨gr, 0, none⟩), .int .u32 (id : Int), .slice A x.size cap] w (RAddOk P gr gm gB (x.add f id d) w) := by
  obtain ⟨i0, hi, hz0, hz1, hz2⟩ := info_parts Try.info77
  have HRM := Lib.hid (rwroom_any hW ok)
  have HW := Lib.hid hW
  have HF := Lib.hid hf
  have HL := Lib.hid hl
  have HA := Lib.hid hA
  have HGM := Lib.hid hf.ltm
  have HGB := Lib.hid hf.ltB
  have HDL := Lib.hid hl.blen
  have HMANY := Lib.hid ok.many
  have HGL4 := Lib.hid ok.gen
  have HOK := Lib.hid hok
  have HS1 := Lib.hid ok.size1
  have HS2 := Lib.hid ok.size2
  have hWc := hW
  obtain ⟨A0, n0, c0, es0, hg, hPg, hPm, hPB, -, -⟩ := hWc
  have HPG := Lib.hid hPg
  have HPM := Lib.hid hPm
  have HPB := Lib.hid hPB
  obtain ⟨hp8, hp18, hpm⟩ := per_bounds ok.size1 ok.size2
  have HPMX := Lib.hid hpm
  have hrl := ok.ready
  have hrm : (((x.room : Nat) : Int) == 0) = false := by
    rw [beq_eq_false_iff_ne]; unfold Wh.room; omega
  have hrm0 : ¬ ((x.room : Nat) : Int) = 0 := by unfold Wh.room; omega
  obtain ⟨rm, hrm2⟩ : ∃ rm, x.room = rm := ⟨_, rfl⟩
  rw [hrm2] at hrm hrm0 HRM
  obtain ⟨R, hR⟩ : ∃ R, x.add f id d = R := ⟨_, rfl⟩
  rw [hR]
  obtain ⟨X1, hX1⟩ : ∃ X, ({ x with L := x.L ++ [(id, d)], ready := (x.next / x.per : Nat), next := x.next + 1 } : Wh) = X := ⟨_, rfl⟩
  obtain ⟨X0, hX0⟩ : ∃ X, ({ x with ready := (x.next / x.per : Nat) } : Wh) = X := ⟨_, rfl⟩
  have hRR : R = if (f.prepW x.ready (x.next / x.per)).2 = 0 then
        if ((f.prepW x.ready (x.next / x.per)).1.prog (x.at_ x.next) (wrec x.gen id d)).2 = 0 then
          (X1, ((f.prepW x.ready (x.next / x.per)).1.prog (x.at_ x.next) (wrec x.gen id d)).1, 0)
        else (X0, (f.prepW x.ready (x.next / x.per)).1.prog (x.at_ x.next) (wrec x.gen id d))
      else (x, f.prepW x.ready (x.next / x.per)) := by
    rw [← hR, ← hX1, ← hX0]; unfold Wh.add; rw [if_pos hl.blen, if_neg (by omega), if_neg (by rw [hdn]; decide)]
  have u := rwc6 hg
  have u2 := u.2.2.1
  have hbz : ((x.size : Int) != (x.size : Int)) = false := bne_self_eq_false _
  have HQW : Hid (∀ W : World, Below w.heap.size w W → W.cell? ⟨gr, 0, none⟩ = some (.pointer (some ⟨gm, 0, none⟩)) ∧ W.cell? ⟨gr, 2, none⟩ = some (.int .i64 (x.size : Int)) ∧ W.cell? ⟨gr, 4, none⟩ = some (.int .i64 (if x.ready < 0 then -1 else x.ready + 6)) ∧ W.cell? ⟨gr, 5, none⟩ = some (.int .i64 (x.next : Int)) ∧ W.cell? ⟨gm, 16, none⟩ = some (.bool false)) := Lib.hid (fun W hb => by
    obtain ⟨Aq, nq, cq, eq, hgq, -⟩ := HW.out.below hb
    have q := rwc6 hgq
    exact ⟨q.1, q.2.2.1, q.2.2.2.2.1, q.2.2.2.2.2.1, by rw [← hdn]; exact (HF.out.below hb).off⟩)
  obtain ⟨qs, hqs⟩ : ∃ qs, x.next / x.per = qs := ⟨_, rfl⟩
  obtain ⟨qj, hqj⟩ : ∃ qj, x.next % x.per = qj := ⟨_, rfl⟩
  have hqs8 : qs < 8 := by rw [← hqs]; exact Nat.div_lt_of_lt_mul (by rw [Nat.mul_comm]; exact hnx)
  have hqjp : qj < 256 / (x.size + 13) := by rw [← hqj]; exact Nat.mod_lt _ (by show 0 < 256 / (x.size + 13); omega)
  have HAT := Lib.hid (fun W (hc : W.cell? ⟨gr, 2, none⟩ = some (.int .i64 (x.size : Int))) => rat_any (gr := gr) (size := x.size) (w := W) x.next qs qj hc HS1.out HS2.out (Nat.le_of_lt hnx) hqs hqj)
  obtain ⟨qw, hqw⟩ : ∃ q, qj * (x.size + 13) = q := ⟨_, rfl⟩
  have hq2 : qw + (x.size + 13) ≤ 256 := by
    rw [← hqw, ← Nat.succ_mul]
    exact Nat.le_trans (Nat.mul_le_mul_right _ hqjp) HPMX.out
  obtain ⟨a0, ha0⟩ : ∃ a, 256 * (6 + qs) + qw = a := ⟨_, rfl⟩
  have hat : x.at_ x.next = a0 := by
    show 256 * (6 + x.next / x.per) + x.next % x.per * (x.size + 13) = a0
    rw [hqs, hqj, hqw, ha0]
  have HAL : Hid (a0 + x.size + 13 ≤ 3584) := Lib.hid (by omega)
  rw [hqw, ha0] at HAT
  rw [hqs, hat] at hRR
  rw [hqs] at hX1 hX0
  obtain ⟨gn, hgn⟩ : ∃ g, x.gen = g := ⟨_, rfl⟩
  have HGN := Lib.hid hgn
  rw [hgn] at hRR HGL4
  obtain ⟨nn, hnn⟩ : ∃ nn, x.next = nn := ⟨_, rfl⟩
  have HNN := Lib.hid hnn
  rw [hnn] at HQW hX1
  simp only [hnn] at HAT
  obtain ⟨sz, hsz⟩ : ∃ sz, x.size = sz := ⟨_, rfl⟩
  have HSZ := Lib.hid hsz
  rw [hsz] at hbz u2 HL HDL HAL HQW HS1 HS2 ⊢
  simp only [hsz] at HAT
  have HRR := Lib.hid hRR
  have HX1 := Lib.hid hX1
  have HX0 := Lib.hid hX0
  have hszi : (sz : Int) ≤ 16 := by have := HS2.out; omega
  have HQS8 := Lib.hid hqs8
  obtain ⟨rd, hrd⟩ : ∃ r, x.ready = r := ⟨_, rfl⟩
  have HRD := Lib.hid hrd
  rw [hrd] at HQW hrl
  have HRL := Lib.hid hrl
  have HDN := Lib.hid hdn
  have hnni : (nn : Int) ≤ 144 := by have : x.next < 8 * (256 / (x.size + 13)) := hnx; omega
  clear hR hRR hX1 hX0 hg u hf hl hA hW hnx hok hrm2 hdn hp8 hp18 hpm hqs hqj hqw ha0 hat hgn hnn hsz hPg hPm hPB ok hqjp hq2 hrd hrl
  go_enter Try.func13, Try.ntmps13
  go_wp2_with fail
  refine HRM.out.mono ?_
  rintro e w' ⟨rfl, q, rfl⟩
  have HBQ : Hid (Below w.heap.size w (w.drewN q)) := drewN_below w q
  generalize w.drewN q = wq at *
  clear HRM u2 hbz
  have u0 := (HQW.out wq HBQ.out).1
  have u16 := (HQW.out wq HBQ.out).2.2.2.2
  have u5 := (HQW.out wq HBQ.out).2.2.2.1
  have HATQ := Lib.hid (HAT.out wq (HQW.out wq HBQ.out).2.1)
  go_wp2_with fail
  refine HATQ.out.mono ?_
  rintro e w' ⟨rfl, q, rfl⟩
  have HBR : Hid (Below w.heap.size w (wq.drewN q)) := Lib.hid (HBQ.out.trans ((drewN_below wq q).mono HBQ.out.size))
  generalize wq.drewN q = wr at *
  clear HATQ u0 u16 u5 hrm hrm0 HBQ HAT
  have u0 := (HQW.out wr HBR.out).1
  have u4 := (HQW.out wr HBR.out).2.2.1
  have HFR : Hid (Frm w wr (RF P gm gB)) := Lib.hid (Frm.of_below HBR.out)
  by_cases hrdy : (qs : Int) = rd
  · have u4b : wr.cell? ⟨gr, 4, none⟩ = some (.int .i64 ((6 + qs : Nat) : Int)) := by
      rw [u4, ← hrdy, if_neg (by omega)]
      have : (qs : Int) + 6 = ((6 + qs : Nat) : Int) := by omega
      rw [this]
    obtain ⟨s6, hs6⟩ : ∃ s, 6 + qs = s := ⟨_, rfl⟩
    rw [hs6] at u4b ⊢
    have hneb : ((s6 : Int) != (s6 : Int)) = false := bne_self_eq_false _
    have HX : Hid (({ x with ready := (qs : Int) } : Wh) = x) := Lib.hid (by have e : (qs : Int) = x.ready := hrdy.trans HRD.out.symm; rw [e])
    have HPW : Hid (f.prepW x.ready qs = (f, 0)) := Lib.hid (by unfold Fl.prepW; rw [HRD.out, if_pos hrdy])
    have HRRc : Hid (R = if (f.prog a0 (wrec gn id d)).2 = 0 then (X1, (f.prog a0 (wrec gn id d)).1, 0) else (X0, f.prog a0 (wrec gn id d))) := Lib.hid (by rw [HRR.out, HPW.out]; exact if_pos (show (f, (0 : Int)).2 = 0 from rfl))
    clear u4 hs6 HRR HPW
    go_upto_region 13 with fail
    clear u4b hneb u0
    obtain ⟨wc, rfl⟩ : ∃ W : World, W = wr := ⟨_, rfl⟩
    have HWc : Hid (RWhAt P gr gm gB { x with ready := (qs : Int) } wc) := Lib.hid (by rw [HX.out]; exact HW.out.below HBR.out)
    obtain ⟨f1, rfl⟩ : ∃ F : Fl, F = f := ⟨_, rfl⟩
    have HFc := Lib.hid (HF.out.below HBR.out)
    have HDc := HDN
    have HOKc := Lib.hid (HOK.out.more (k := K) (j := K + 1) (by omega))
    have HFRc := HFR
    have HLc : Hid (Row wc B A sz (bv d)) := Lib.hid (HL.out.frm (fun b o e _ => by rintro (h | h | h); exact (HA.out b o e).2.2 h; exact (HA.out b o e).1 h; exact (HA.out b o e).2.1 h) HFRc.out hB)
    have HBc : Hid (B ≤ wc.heap.size) := Lib.hid (Nat.le_trans hB HFRc.out.size)
    have HQ : Hid (∀ W : World, Below wc.heap.size wc W → W.cell? ⟨gr, 0, none⟩ = some (.pointer (some ⟨gm, 0, none⟩)) ∧ W.cell? ⟨gr, 1, none⟩ = some (.int .u32 (gn : Int))) := Lib.hid (fun W hb => by
      obtain ⟨Aq, nq, cq, eq, hgq, -⟩ := HWc.out.below hb
      have u := rwc6 hgq
      exact ⟨u.1, by rw [← HGN.out]; exact u.2.1⟩)
    have u1 := (HQ.out wc (Below.refl _ _)).2
    have HM1 := Lib.hid (four_any gn HGL4.out wc)
    go_wp2_with fail
    refine HM1.out.mono ?_
    rintro e w1 ⟨A1, n1, c1, rfl, hn1, ho1, hb1⟩
    obtain rfl : n1 = 4 := hn1.out
    clear hn1 u1 HM1
    have HM1 := Lib.hid (four_any id hid w1)
    go_wp2_with fail
    refine HM1.out.mono ?_
    rintro e w2 ⟨A2, n2, c2, rfl, hn2, ho2, hb2⟩
    obtain rfl : n2 = 4 := hn2.out
    clear hn2 HM1
    have HB2 : Hid (Below wc.heap.size wc w2) := Lib.hid (hb1.trans (hb2.mono hb1.size))
    have HR1 := Lib.hid (((Row.of_own ho1).below hb2).more hb2.size)
    have HR2 := Lib.hid (Row.of_own ho2)
    clear ho1 ho2
    have HB3 : Hid (Below w2.heap.size w2 (w2.alloc (.cells #[.slice A1 4 c1, .slice A2 4 c2, .slice A sz cap] 37))) := Lib.hid ((Below.refl _ _).alloc (Nat.le_refl _) _)
    have HJ : Hid (Calls Try.prog 38 #[.slice (some ⟨w2.heap.size, 0, none⟩) 3 3] (w2.alloc (.cells #[.slice A1 4 c1, .slice A2 4 c2, .slice A sz cap] 37)) (FreshBytes (w2.alloc (.cells #[.slice A1 4 c1, .slice A2 4 c2, .slice A sz cap] 37)).heap.size (wmsg gn id d) (w2.alloc (.cells #[.slice A1 4 c1, .slice A2 4 c2, .slice A sz cap] 37)))) := Lib.hid (by
      have hs3 := HB3.out.size
      refine join_boxW [⟨A1, 4, c1, CrcM.four gn⟩, ⟨A2, 4, c2, CrcM.four id⟩, ⟨A, sz, cap, d⟩] 3 rfl rfl (heap_alloc_new _ _) ?_ (by simp) ?_ ?_
      · intro r hr
        rcases List.mem_cons.1 hr with rfl | hr
        · exact (HR1.out.below HB3.out).more hs3
        · rcases List.mem_cons.1 hr with rfl | hr
          · exact (HR2.out.below HB3.out).more hs3
          · obtain rfl := List.mem_singleton.1 hr
            exact ((HLc.out.more HBc.out).below (HB2.out.trans (HB3.out.mono HB2.out.size))).more (Nat.le_trans HB2.out.size hs3)
      · simp [flat, CrcM.four]; have := HDL.out; omega
      · simp [flat, wmsg])
    go_wp2_with fail
    refine HJ.out.mono ?_
    rintro e w3 ⟨A3, n3, c3, rfl, hn3, ho3, hb3⟩
    clear HJ
    have HB4 : Hid (Below wc.heap.size wc w3) := Lib.hid ((HB2.out.trans (HB3.out.mono HB2.out.size)).trans (hb3.mono (Nat.le_trans HB2.out.size HB3.out.size)))
    have HN3 : Hid (n3 = sz + 8) := Lib.hid (by rw [hn3.out, wmsg_length, HDL.out])
    have HP3 := Lib.hid (r1put_any w3.heap.size n3 c3 A3 (wmsg gn id d) w3 (Row.of_own ho3) (by have := HN3.out; omega) (Nat.le_refl _))
    clear hn3 ho3 hb3 HR1 HR2 HB3 hb1 hb2
    go_wp2_with fail
    refine HP3.out.mono ?_
    rintro e w5 ⟨A5, n5, c5, rfl, hn5, ho5, hb5⟩
    clear HP3
    have HB5 : Hid (Below wc.heap.size wc w5) := Lib.hid (HB4.out.trans (hb5.mono HB4.out.size))
    obtain ⟨m5, hm5⟩ : ∃ m, sz + 12 = m := ⟨_, rfl⟩
    have hn5' : n5 = m5 := by rw [hn5.out, CrcM.put_length, wmsg_length, HDL.out, ← hm5]
    subst hn5'
    have HM5 := Lib.hid hm5
    have HR5 := Lib.hid (Row.of_own ho5)
    obtain ⟨g5, cc5, hv5, hg5, hl5⟩ := ho5.form (by omega)
    injection hv5 with e15 e25 e35
    subst e15 e35
    have HG5 : Hid (g5 ≠ gm ∧ g5 ≠ gB) := Lib.hid (by
      have := HFRc.out.size
      have := HB4.out.size
      have := HGM.out
      have := HGB.out
      exact ⟨by omega, by omega⟩)
    have HF5 := Lib.hid (HFc.out.below HB5.out)
    have HST := Lib.hid HOKc.out
    have HPR := Lib.hid (rprog_ok gm gB a0 w5.heap.size n5 c5 (some ⟨g5, 0, none⟩) (CrcM.put (wmsg gn id d)) f1 w5 HF5.out HR5.out (fun _ b o e => by injection e with e; injection e with e; subst e; exact HG5.out) (Nat.le_refl _) HDc.out (by have := HAL.out; omega) HOKc.out.1 (by have := HOKc.out.2.1; omega))
    have HRES0 : Hid (f1.prog a0 (wrec gn id d) = if (f1.prog a0 (CrcM.put (wmsg gn id d))).2 = 0 then (f1.prog a0 (CrcM.put (wmsg gn id d))).1.prog (a0 + n5) [0] else f1.prog a0 (CrcM.put (wmsg gn id d))) := Lib.hid (by
      unfold wrec
      rw [Fl.prog_append, CrcM.put_length, wmsg_length, HDL.out, ← HM5.out])
    have HD2 := Lib.hid (fun hh => (prog_down_same f1 a0 (CrcM.put (wmsg gn id d)) hh).trans HDc.out)
    have HOK2 := Lib.hid (HOKc.out.prog (CrcM.put (wmsg gn id d)) a0)
    have HPL : Hid ((CrcM.put (wmsg gn id d)).length = n5) := Lib.hid (by rw [CrcM.put_length, wmsg_length, HDL.out, ← HM5.out])
    rw [HPL.out] at HOK2
    obtain ⟨f2, r2, hE2⟩ : ∃ f2 r2, f1.prog a0 (CrcM.put (wmsg gn id d)) = (f2, r2) := ⟨_, _, rfl⟩
    rw [hE2] at HPR HRES0 HD2 HOK2
    have u0 := (HQ.out w5 HB5.out).1
    clear hE2 hn5 ho5 hm5 hg5 hl5 HPL hb5 HR5
    go_wp2_with fail
    refine HPR.out.mono ?_
    rintro e w6 ⟨rfl, hd6⟩
    dsimp only
    clear HPR u0 HB4
    have HFR6 : Hid (Frm w w6 (RF P gm gB)) := Lib.hid ((HFRc.out.trans (Frm.of_below (F := RF P gm gB) HB5.out) (fun _ _ h => h)).trans (frm_gr2 (P := P) hd6.out.2) (fun _ _ h => h))
    have HW6 : Hid (RWhAt P gr gm gB { x with ready := (qs : Int) } w6) := Lib.hid ((HWc.out.below HB5.out).keep (fun b hb hl => hd6.out.2.block b hl (fun e => HPM.out (by rw [← e]; exact hb)) (fun e => HPB.out (by rw [← e]; exact hb))) hd6.out.2.size)
    have HF6 := Lib.hid hd6.out.1
    clear hd6
    by_cases h2 : r2 = 0
    · subst h2
      have hn5i : (n5 : Int) ≤ 28 := by have := HM5.out; omega
      have hni1 : (a0 : Int) ≤ 3584 := by have := HAL.out; omega
      have u0 : w6.cell? ⟨gr, 0, none⟩ = some (.pointer (some ⟨gm, 0, none⟩)) := by
        obtain ⟨Aq, nq, cq, eq, hgq, -⟩   := _root_.id HW6.out
        exact (rwc6 hgq).1
      have HBZ : Hid (Below w6.heap.size w6 (w6.alloc (.cells #[.int .u8 0] 5))) := Lib.hid ((Below.refl _ _).alloc (Nat.le_refl _) _)
      have HPR2 := Lib.hid (fun ai (hai : ai = ((a0 + n5 : Nat) : Int)) => rprog_ai gm gB (a0 + n5) (w6.alloc (.cells #[.int .u8 0] 5)).heap.size 1 1 ai hai (some ⟨w6.heap.size, 0, none⟩) [0] f2 (w6.alloc (.cells #[.int .u8 0] 5)) (HF6.out.below HBZ.out) (row_boxW (heap_alloc_new _ _)) (fun _ b o e => by
        injection e with e
        injection e with e
        have h1 := HF6.out.ltm
        have h2 := HF6.out.ltB
        exact ⟨by omega, by omega⟩) (Nat.le_refl _) (HD2.out rfl) (by have := HAL.out; have := HM5.out; omega) HOK2.out.1 (by have := HOK2.out.2.1; have := HM5.out; omega))
      go_wp2_with fail
      refine (HPR2.out _ (by push_cast; omega)).mono ?_
      rintro e w7 ⟨rfl, hd7⟩
      dsimp only
      have HRES1 : Hid (f1.prog a0 (wrec gn id d) = f2.prog (a0 + n5) [0]) := Lib.hid (HRES0.out.trans (if_pos trivial))
      clear HPR2 u0 HRES0
      have HFR7 : Hid (Frm w w7 (RF P gm gB)) := Lib.hid ((HFR6.out.trans (Frm.of_below (F := RF P gm gB) HBZ.out) (fun _ _ h => h)).trans (frm_gr2 (P := P) hd7.out.2) (fun _ _ h => h))
      have HW7 : Hid (RWhAt P gr gm gB { x with ready := (qs : Int) } w7) := Lib.hid ((HW6.out.below HBZ.out).keep (fun b hb hl => hd7.out.2.block b hl (fun e => HPM.out (by rw [← e]; exact hb)) (fun e => HPB.out (by rw [← e]; exact hb))) hd7.out.2.size)
      have HF7 := Lib.hid hd7.out.1
      clear hd7 HBZ
      obtain ⟨f3, r3, hE3⟩ : ∃ f3 r3, f2.prog (a0 + n5) [0] = (f3, r3) := ⟨_, _, rfl⟩
      rw [hE3] at HRES1 HF7 ⊢
      clear hE3
      dsimp only
      by_cases h3 : r3 = 0
      · subst h3
        have HRES : Hid (R = (X1, f3, 0)) := Lib.hid (by rw [HRRc.out, HRES1.out]; exact if_pos (show (f3, (0 : Int)).2 = 0 from rfl))
        go_upto_region 20 with fail
        obtain ⟨wb, hwb⟩ : ∃ wb, wb = w7 := ⟨_, rfl⟩
        rw [← hwb] at HW7 HF7 HFR7 ⊢
        clear hwb
        have HF8 := HF7
        have HFB := HFR7
        obtain ⟨Av, nv, cv, es, hgw, hpw, -, -, hrw, hes⟩   := _root_.id HW7.out
        have HGW := Lib.hid hgw
        have HRW := Lib.hid hrw
        have HES := Lib.hid hes
        have HNV : Hid (nv ≤ 1000) := Lib.hid (by
          have e1 := hrw.2.2.1
          have e2 : es.length = x.L.length := by
            have : (es.map RRow.pair).length = es.length := by simp
            rw [← this, hes]
          have := HMANY.out
          omega)
        have hsb := HFB.out.size
        have LGW : Hid (gr < wb.heap.size) := HW7.out.lt
        have HGL : Hid (gr < wb.heap.size) := LGW
        have HVL : Hid (∀ g, (Value.slice Av nv cv).ownBlock = some g → g < wb.heap.size) := fun g hg => (hrw.1.lt g hg).2
        have HBL : Hid (w.heap.size ≤ wb.heap.size) := hsb
        have SFB : Hid (SF wb gr (.slice Av nv cv) wb) := ⟨Frm.refl _ _⟩
        have HLb : Hid (Row wb B A sz (bv d)) := Lib.hid (HL.out.frm (fun b o e _ => by rintro (h | h | h); exact (HA.out b o e).2.2 h; exact (HA.out b o e).1 h; exact (HA.out b o e).2.1 h) HFB.out hB)
        have HROW : Hid (∀ W : World, SF wb gr (.slice Av nv cv) W → Row W W.heap.size A sz (bv d)) := Lib.hid (fun W hS => (HLb.out.frm (fun b o e _ => by
          rintro (h | h)
          · exact (HA.out b o e).2.2 (by rw [h]; exact HPG.out)
          · exact (HA.out b o e).2.2 (hrw.2.1 b h).1) hS.fr (Nat.le_trans hB hsb)).more (Nat.le_trans hB (Nat.le_trans hsb hS.fr.size)))
        clear hgw hpw hrw hes HW7 HRES1 HF7 HFR7 hn5i hni1
        refine wp_region_noPanic ?_
        refine wp_region_held_drew (S := (fun W => SF wb gr (.slice Av nv cv) W)) (by kernel_rfl) (SFB.out.below (Below.refl _ _).drew) (fun hH0 => ?_)
        have hH0 : SF wb gr (.slice Av nv cv) wb.drew := hH0
        have HRWd := Lib.hid (HRW.out.below ((Below.refl wb.heap.size wb).drew))
        have HGWd := Lib.hid (show wb.drew.heap[gr]? = _ from HGW.out)
        have LGWd := Lib.hid (show gr < wb.drew.heap.size from LGW.out)
        generalize wb.drew = wd2000 at *
        refine wpAnyH_take (i := 0) (oi := { dst := some 95, op := Op.move (Operand.tmp 0), type := 34, pos := "ref.go:279", after := #[], guard := none }) (v := ?tkv2001) rfl (by kernel_rfl) (by kernel_rfl) (by kernel_rfl) (fun _ _ _ h => h) (Or.inl ⟨by rfl, ?tky2001⟩) hH0 ?tkr2001
        case tky2001 => (intro w' hSw; clear hSw; go_simp; try with_reducible rfl)
        try simp only [Act.put, List.setIfInBounds_toArray, List.set_cons_zero, List.set_cons_succ]
        refine wpAnyH_take (i := 1) (oi := { dst := some 96, op := Op.move (Operand.tmp 0), type := 34, pos := "ref.go:279", after := #[], guard := none }) (v := ?tkv2002) rfl (by kernel_rfl) (by kernel_rfl) (by kernel_rfl) (fun _ _ _ h => h) (Or.inl ⟨by rfl, ?tky2002⟩) hH0 ?tkr2002
        case tky2002 => (intro w' hSw; clear hSw; go_simp; try with_reducible rfl)
        try simp only [Act.put, List.setIfInBounds_toArray, List.set_cons_zero, List.set_cons_succ]
        refine wpAnyH_take (i := 2) (oi := { dst := some 97, op := Op.nilCheck (Operand.tmp 96), type := 0, pos := "ref.go:279", after := #[{ on := 1, ground := Ground.data }], guard := none }) (v := ?tkv2003) rfl (by kernel_rfl) (by kernel_rfl) (by kernel_rfl) (fun _ _ _ h => h) (Or.inl ⟨by rfl, ?tky2003⟩) hH0 ?tkr2003
        case tky2003 => (intro w' hSw; clear hSw; go_simp; try with_reducible rfl)
        try simp only [Act.put, List.setIfInBounds_toArray, List.set_cons_zero, List.set_cons_succ]
        refine wpAnyH_take (i := 3) (oi := { dst := some 98, op := Op.fieldAddr 47 (Operand.tmp 97) 3, type := 0, pos := "ref.go:279", after := #[{ on := 2, ground := Ground.data }], guard := none }) (v := ?tkv2004) rfl (by kernel_rfl) (by kernel_rfl) (by kernel_rfl) (fun _ _ _ h => h) (Or.inl ⟨by rfl, ?tky2004⟩) hH0 ?tkr2004
        case tky2004 => (intro w' hSw; clear hSw; go_simp; try with_reducible rfl)
        try simp only [Act.put, List.setIfInBounds_toArray, List.set_cons_zero, List.set_cons_succ]
        refine wpAnyH_take (i := 5) (oi := { dst := some 100, op := Op.move (Operand.tmp 1), type := 22, pos := "ref.go:279", after := #[], guard := none }) (v := ?tkv2005) rfl (by kernel_rfl) (by kernel_rfl) (by kernel_rfl) (fun _ _ _ h => h) (Or.inl ⟨by rfl, ?tky2005⟩) hH0 ?tkr2005
        case tky2005 => (intro w' hSw; clear hSw; go_simp; try with_reducible rfl)
        try simp only [Act.put, List.setIfInBounds_toArray, List.set_cons_zero, List.set_cons_succ]
        refine wpAnyH_take (i := 6) (oi := { dst := some 101, op := Op.move (Operand.tmp 2), type := 37, pos := "ref.go:279", after := #[], guard := none }) (v := ?tkv2006) rfl (by kernel_rfl) (by kernel_rfl) (by kernel_rfl) (fun _ _ _ h => h) (Or.inl ⟨by rfl, ?tky2006⟩) hH0 ?tkr2006
        case tky2006 => (intro w' hSw; clear hSw; go_simp; try with_reducible rfl)
        try simp only [Act.put, List.setIfInBounds_toArray, List.set_cons_zero, List.set_cons_succ]
        refine wpAnyH_ready (rs := [4, 7]) (by kernel_rfl) (by simp) ?_
        refine AllReadyH.cons (o := { dst := some 99, op := Op.load 44 (Operand.tmp 98), type := 44, pos := "ref.go:279", after := #[{ on := 3, ground := Ground.data }], guard := none }) rfl (fun K hK => ?_) (AllReadyH.cons (o := { dst := some 102, op := Op.buildSlice 90 1 #[(0, Operand.tmp 101)], type := 90, pos := "ref.go:279", after := #[{ on := 6, ground := Ground.data }], guard := none }) rfl (fun K hK => ?_) AllReadyH.nil)
        · have hc2007 := (rwc6 HGWd.out).2.2.2.1
          go_simp
          clear hc2007
          have hS2007 : SF wb gr (.slice Av nv cv) wd2000 := hH0
          refine hK.out _ _ hS2007 (fun hH2007 => ?_)
          have hH2007 : SF wb gr (.slice Av nv cv) wd2000 := hH2007
          clear hK K hS2007
          try simp only [Act.put, List.setIfInBounds_toArray, List.set_cons_zero, List.set_cons_succ]
          refine wpAnyH_ready (rs := [7]) (by kernel_rfl) (by simp) ?_
          refine AllReadyH.cons (o := { dst := some 102, op := Op.buildSlice 90 1 #[(0, Operand.tmp 101)], type := 90, pos := "ref.go:279", after := #[{ on := 6, ground := Ground.data }], guard := none }) rfl (fun K hK => ?_) AllReadyH.nil
          go_simp
          have hb2008 : Below wd2000.heap.size wd2000 (wd2000.alloc (.cells #[.slice A sz cap] 37)) := (Below.refl _ _).alloc (Nat.le_refl _) _
          have AX2008 : Hid ((wd2000.alloc (.cells #[.slice A sz cap] 37)).heap[wd2000.heap.size]? = some (.cells #[.slice A sz cap] 37 (0, 0))) := Lib.hid (heap_alloc_new _ _)
          have AL2008 : Hid (wd2000.heap.size < (wd2000.alloc (.cells #[.slice A sz cap] 37)).heap.size) := Lib.hid (by simp)
          generalize (wd2000.alloc (.cells #[.slice A sz cap] 37)) = wn2008 at *
          have HRWd_2008 := Lib.hid (HRWd.out.below hb2008)
          have HGWd_2008 := Lib.hid ((hb2008.block gr LGWd.out).trans HGWd.out)
          have LGWd_2008 := Lib.hid (Nat.lt_of_lt_of_le LGWd.out hb2008.size)
          have hS2008 : SF wb gr (.slice Av nv cv) wn2008 := ((hH2007).below hb2008)
          refine hK.out _ _ hS2008 (fun hH2008 => ?_)
          have hH2008 : SF wb gr (.slice Av nv cv) wn2008 := hH2008
          clear hK K hS2008
          try simp only [Act.put, List.setIfInBounds_toArray, List.set_cons_zero, List.set_cons_succ]
          refine wpAnyH_ready (rs := [8]) (by kernel_rfl) (by simp) ?_
          refine AllReadyH.cons (o := { dst := some 103, op := Op.call { callee := Callee.value (Operand.func 38), args := #[Operand.tmp 102], argTypes := #[90] }, type := 37, pos := "ref.go:279", after := #[{ on := 7, ground := Ground.data }], guard := none }) rfl (fun K hK => ?_) AllReadyH.nil
          go_simp
          refine (join_boxW [⟨A, sz, cap, d⟩] 1 rfl rfl AX2008.out (by intro r hr; obtain rfl := List.mem_singleton.1 hr; exact HROW.out _ (hH2008)) (by simp) (by show ([⟨A, sz, cap, d⟩].flatMap BRow.l).length ≤ _; simp; have := HDL.out; omega) (l := d) (by simp [flat])).mono ?_
          rintro e' wn2009 ⟨Ac2009, nc2009, rc, rfl, hnc2009, ho2009, hb2009⟩
          obtain rfl : sz = nc2009 := (hnc2009.out.trans HDL.out).symm
          obtain ⟨rg, rcc2009, hv2009, hg2009, hl2009⟩ := ho2009.form (by have := HS1.out; omega)
          injection hv2009 with e12009 e22009 e32009
          subst e12009 e32009
          have HNW2009 : Hid (RNew w gr (.slice Av nv cv) rg 0 sz d wn2009) := Lib.hid (rnew_of HVL.out HGL.out HBL.out (hH2008).fr.size hg2009 hl2009 (Row.of_own ho2009))
          clear ho2009 hnc2009
          go_simp
          have HRWd_2009 := Lib.hid (HRWd_2008.out.below hb2009)
          have HGWd_2009 := Lib.hid ((hb2009.block gr LGWd_2008.out).trans HGWd_2008.out)
          have LGWd_2009 := Lib.hid (Nat.lt_of_lt_of_le LGWd_2008.out hb2009.size)
          have AX2008_2009 := Lib.hid ((hb2009.block wd2000.heap.size AL2008.out).trans AX2008.out)
          have AL2008_2009 := Lib.hid (Nat.lt_of_lt_of_le AL2008.out hb2009.size)
          have hS2009 : SF wb gr (.slice Av nv cv) wn2009 := ((hH2008).below hb2009)
          refine hK.out _ _ hS2009 (fun hH2009 => ?_)
          have hH2009 : SF wb gr (.slice Av nv cv) wn2009 := hH2009
          clear hK K hS2009
          try simp only [Act.put, List.setIfInBounds_toArray, List.set_cons_zero, List.set_cons_succ]
          refine wpAnyH_take (i := 9) (oi := { dst := some 104, op := Op.build 77 #[(0, Operand.tmp 100), (1, Operand.tmp 103)], type := 77, pos := "ref.go:279", after := #[{ on := 5, ground := Ground.data }, { on := 8, ground := Ground.data }], guard := none }) (v := ?tkv2010) rfl (by kernel_rfl) (by kernel_rfl) (by kernel_rfl) (fun _ _ _ h => h) (Or.inl ⟨by rfl, ?tky2010⟩) hH2009 ?tkr2010
          case tky2010 => (intro w' hSw; clear hSw; go_simp; try with_reducible rfl)
          try simp only [Act.put, List.setIfInBounds_toArray, List.set_cons_zero, List.set_cons_succ]
          refine wpAnyH_ready (rs := [10]) (by kernel_rfl) (by simp) ?_
          refine AllReadyH.cons (o := { dst := some 105, op := Op.buildSlice 44 1 #[(0, Operand.tmp 104)], type := 44, pos := "ref.go:279", after := #[{ on := 9, ground := Ground.data }], guard := none }) rfl (fun K hK => ?_) AllReadyH.nil
          go_simp
          have hb2011 : Below wn2009.heap.size wn2009 (wn2009.alloc (.cells #[.int .u32 (id : Int), .slice (some ⟨rg, 0, none⟩) sz rc] 77)) := (Below.refl _ _).alloc (Nat.le_refl _) _
          have AX2011 : Hid ((wn2009.alloc (.cells #[.int .u32 (id : Int), .slice (some ⟨rg, 0, none⟩) sz rc] 77)).heap[wn2009.heap.size]? = some (.cells #[.int .u32 (id : Int), .slice (some ⟨rg, 0, none⟩) sz rc] 77 (0, 0))) := Lib.hid (heap_alloc_new _ _)
          have AL2011 : Hid (wn2009.heap.size < (wn2009.alloc (.cells #[.int .u32 (id : Int), .slice (some ⟨rg, 0, none⟩) sz rc] 77)).heap.size) := Lib.hid (by simp)
          generalize (wn2009.alloc (.cells #[.int .u32 (id : Int), .slice (some ⟨rg, 0, none⟩) sz rc] 77)) = wn2011 at *
          have HRWd_2011 := Lib.hid (HRWd_2009.out.below hb2011)
          have HGWd_2011 := Lib.hid ((hb2011.block gr LGWd_2009.out).trans HGWd_2009.out)
          have LGWd_2011 := Lib.hid (Nat.lt_of_lt_of_le LGWd_2009.out hb2011.size)
          have AX2008_2011 := Lib.hid ((hb2011.block wd2000.heap.size AL2008_2009.out).trans AX2008_2009.out)
          have AL2008_2011 := Lib.hid (Nat.lt_of_lt_of_le AL2008_2009.out hb2011.size)
          have HNW2009_2011 := Lib.hid (HNW2009.out.below hb2011)
          have hS2011 : SF wb gr (.slice Av nv cv) wn2011 := ((hH2009).below hb2011)
          refine hK.out _ _ hS2011 (fun hH2011 => ?_)
          have hH2011 : SF wb gr (.slice Av nv cv) wn2011 := hH2011
          clear hK K hS2011
          try simp only [Act.put, List.setIfInBounds_toArray, List.set_cons_zero, List.set_cons_succ]
          refine wpAnyH_ready (rs := [11]) (by kernel_rfl) (by simp) ?_
          refine AllReadyH.cons (o := { dst := some 106, op := Op.call { callee := Callee.builtin Builtin.append, args := #[Operand.tmp 99, Operand.tmp 105], argTypes := #[44, 44] }, type := 44, pos := "ref.go:279", after := #[{ on := 4, ground := Ground.data }, { on := 10, ground := Ground.data }, { on := 8, ground := Ground.chain }], guard := none }) rfl (fun K hK => ?_) AllReadyH.nil
          rw [if_pos (by rfl)]
          refine wp_app2 (.tmp 99) (.tmp 105) 44 rfl 0 77 i0 _ 32 Try.underlying44 hi hz0 hz1 hz2 rfl _ nv _ rfl HRWd_2011.out.1 _ 1 _ _ 77 rfl AX2011.out rfl rfl (by have := HNV.out; unfold maxLen; omega) (by have := HNV.out; omega) (Nat.zero_le _) ?_
          intro v4 w4 hown4 hg4 hat4
          obtain ⟨A4, c4, rfl⟩ := own2_form hown4
          have HAPP := Lib.hid (rwh_grow (h := { x with ready := (qs : Int) }) HGWd_2011.out HPG.out HPM.out HPB.out HGM.out HGB.out (Nat.le_trans HBL.out (hH2011).fr.size) HRWd_2011.out HES.out HNW2009_2011.out hown4 hg4 hat4)
          have hS2012 : SF wb gr (.slice Av nv cv) w4 := ((hH2011).app hg4)
          refine hK.out _ _ hS2012 (fun hH2012 => ?_)
          have hH2012 : SF wb gr (.slice Av nv cv) w4 := hH2012
          clear hK K hS2012
          try simp only [Act.put, List.setIfInBounds_toArray, List.set_cons_zero, List.set_cons_succ]
          refine wpAnyH_take (i := 12) (oi := { dst := some 107, op := Op.nilCheck (Operand.tmp 95), type := 0, pos := "ref.go:279", after := #[{ on := 0, ground := Ground.data }, { on := 0, ground := Ground.phase }, { on := 1, ground := Ground.phase }, { on := 2, ground := Ground.phase }, { on := 3, ground := Ground.phase }, { on := 4, ground := Ground.phase }, { on := 5, ground := Ground.phase }, { on := 6, ground := Ground.phase }, { on := 7, ground := Ground.phase }, { on := 8, ground := Ground.phase }, { on := 9, ground := Ground.phase }, { on := 10, ground := Ground.phase }, { on := 11, ground := Ground.phase }], guard := none }) (v := ?tkv2013) rfl (by kernel_rfl) (by kernel_rfl) (by kernel_rfl) (fun _ _ _ h => h) (Or.inl ⟨by rfl, ?tky2013⟩) hH2012 ?tkr2013
          case tky2013 => (intro w' hSw; clear hSw; go_simp; try with_reducible rfl)
          try simp only [Act.put, List.setIfInBounds_toArray, List.set_cons_zero, List.set_cons_succ]
          refine wpAnyH_take (i := 13) (oi := { dst := some 108, op := Op.fieldAddr 47 (Operand.tmp 107) 3, type := 0, pos := "ref.go:279", after := #[{ on := 12, ground := Ground.data }, { on := 0, ground := Ground.phase }, { on := 1, ground := Ground.phase }, { on := 2, ground := Ground.phase }, { on := 3, ground := Ground.phase }, { on := 4, ground := Ground.phase }, { on := 5, ground := Ground.phase }, { on := 6, ground := Ground.phase }, { on := 7, ground := Ground.phase }, { on := 8, ground := Ground.phase }, { on := 9, ground := Ground.phase }, { on := 10, ground := Ground.phase }, { on := 11, ground := Ground.phase }], guard := none }) (v := ?tkv2014) rfl (by kernel_rfl) (by kernel_rfl) (by kernel_rfl) (fun _ _ _ h => h) (Or.inl ⟨by rfl, ?tky2014⟩) hH2012 ?tkr2014
          case tky2014 => (intro w' hSw; clear hSw; go_simp; try with_reducible rfl)
          try simp only [Act.put, List.setIfInBounds_toArray, List.set_cons_zero, List.set_cons_succ]
          refine wpAnyH_ready (rs := [14]) (by kernel_rfl) (by simp) ?_
          refine AllReadyH.cons (o := { dst := none, op := Op.store 44 (Operand.tmp 108) (Operand.tmp 106), type := 0, pos := "ref.go:279", after := #[{ on := 13, ground := Ground.data }, { on := 11, ground := Ground.data }, { on := 11, ground := Ground.chain }, { on := 0, ground := Ground.phase }, { on := 1, ground := Ground.phase }, { on := 2, ground := Ground.phase }, { on := 3, ground := Ground.phase }, { on := 4, ground := Ground.phase }, { on := 5, ground := Ground.phase }, { on := 6, ground := Ground.phase }, { on := 7, ground := Ground.phase }, { on := 8, ground := Ground.phase }, { on := 9, ground := Ground.phase }, { on := 10, ground := Ground.phase }, { on := 11, ground := Ground.phase }], guard := none }) rfl (fun K hK => ?_) AllReadyH.nil
          have q2015 := rwc6 HAPP.out.1
          have y2015 := q2015.2.2.2.1
          have z2015 := q2015.2.2.2.2.2.2.1
          go_simp
          clear q2015 y2015 z2015
          have hS2015 : SF wb gr (.slice Av nv cv) (w4.setCell ⟨gr, 3, none⟩ (.slice A4 (nv + 1) c4)) := ((hH2012).set 3 (.slice A4 (nv + 1) c4))
          refine hK.out _ _ hS2015 (fun hH2015 => ?_)
          have hH2015 : SF wb gr (.slice Av nv cv) (w4.setCell ⟨gr, 3, none⟩ (.slice A4 (nv + 1) c4)) := hH2015
          clear hK K hS2015
          refine wpAnyH_done (by kernel_rfl) ?_ _
          refine NoPanic.normal ?_
          have HSE := Lib.hid (hH2015)
          have HW9 := HAPP.out.2
          have HFR9 : Hid (Frm w (w4.setCell ⟨gr, 3, none⟩ (.slice A4 (nv + 1) c4)) (RF P gm gB)) := HFB.out.trans HSE.out.fr (fun b hb h => by
            rcases h with h | h
            · rw [h]; exact .inl HPG.out
            · exact .inl (HRW.out.2.1 b h).1)
          have HF9 : Hid (RfAt (w4.setCell ⟨gr, 3, none⟩ (.slice A4 (nv + 1) c4)) gm gB f3) := Lib.hid (HF8.out.keep (HSE.out.fr.block gm HF8.out.ltm (by
              rintro (h | h)
              · exact HPM.out (by rw [h]; exact HPG.out)
              · exact HPM.out (HRW.out.2.1 gm h).1)) (HSE.out.fr.block gB HF8.out.ltB (by
              rintro (h | h)
              · exact HPB.out (by rw [h]; exact HPG.out)
              · exact HPB.out (HRW.out.2.1 gB h).1)))
          have hz9 := HAPP.out.1
          obtain ⟨W5, hW5⟩ : ∃ W5, w4.setCell ⟨gr, 3, none⟩ (.slice A4 (nv + 1) c4) = W5 := ⟨_, rfl⟩
          have hs5 : W5.heap.size = w4.heap.size := by rw [← hW5]; simp [World.setCell]
          rw [hW5] at HW9 HFR9 HF9 ⊢
          have HWc9 := HW9
          obtain ⟨Ay, ny, cy, ey, hy, -, -, -, -⟩ := HWc9
          have q5 := rwc6 hy
          have y5 := q5.2.2.2.2.2.1
          have z5 := q5.2.2.2.2.2.2.2.2
          have y5' : W5.cell? ⟨gr, 5, none⟩ = some (.int .i64 (nn : Int)) := by rw [y5, ← HNN.out]
          have HW10 := Lib.hid (HW9.next (nn + 1) ((nn : Int) + 1) (by push_cast; rfl))
          have HE5 := Lib.hid hs5
          clear hW5 hy q5 y5 HSE HAPP hz9 HW9 hs5
          go_wp2_with fail
          go_ret
          refine ⟨?_, ?_, ?_, ?_⟩
          · rw [HRES.out]; rfl
          · rw [HRES.out, ← HX1.out]
            have e : (W5.setCell ⟨gr, 5, none⟩ (.int .i64 ((nn : Int) + 1))).heap.size = w4.heap.size := by rw [← HE5.out]; simp [World.setCell]
            unfold Pn
            rw [e]
            exact HW10
          · rw [HRES.out]
            exact Lib.hid (HF9.out.keep (heap_setCell_other W5 ⟨gr, 5, none⟩ gm _ (fun e => HPM.out (by rw [e]; exact HPG.out))) (heap_setCell_other W5 ⟨gr, 5, none⟩ gB _ (fun e => HPB.out (by rw [e]; exact HPG.out))))
          · exact HFR9.out.trans (Frm.of_grown (F := fun b => b = gr) (grown_set W5 gr 5 _) (fun g h _ => by injection h with h; exact h.symm)) (fun b _ h => by rw [h]; exact .inl HPG.out)
        · go_simp
          have hb2016 : Below wd2000.heap.size wd2000 (wd2000.alloc (.cells #[.slice A sz cap] 37)) := (Below.refl _ _).alloc (Nat.le_refl _) _
          have AX2016 : Hid ((wd2000.alloc (.cells #[.slice A sz cap] 37)).heap[wd2000.heap.size]? = some (.cells #[.slice A sz cap] 37 (0, 0))) := Lib.hid (heap_alloc_new _ _)
          have AL2016 : Hid (wd2000.heap.size < (wd2000.alloc (.cells #[.slice A sz cap] 37)).heap.size) := Lib.hid (by simp)
          generalize (wd2000.alloc (.cells #[.slice A sz cap] 37)) = wn2016 at *
          have HRWd_2016 := Lib.hid (HRWd.out.below hb2016)
          have HGWd_2016 := Lib.hid ((hb2016.block gr LGWd.out).trans HGWd.out)
          have LGWd_2016 := Lib.hid (Nat.lt_of_lt_of_le LGWd.out hb2016.size)
          have hS2016 : SF wb gr (.slice Av nv cv) wn2016 := ((hH0).below hb2016)
          refine hK.out _ _ hS2016 (fun hH2016 => ?_)
          have hH2016 : SF wb gr (.slice Av nv cv) wn2016 := hH2016
          clear hK K hS2016
          try simp only [Act.put, List.setIfInBounds_toArray, List.set_cons_zero, List.set_cons_succ]
          refine wpAnyH_ready (rs := [4, 8]) (by kernel_rfl) (by simp) ?_
          refine AllReadyH.cons (o := { dst := some 99, op := Op.load 44 (Operand.tmp 98), type := 44, pos := "ref.go:279", after := #[{ on := 3, ground := Ground.data }], guard := none }) rfl (fun K hK => ?_) (AllReadyH.cons (o := { dst := some 103, op := Op.call { callee := Callee.value (Operand.func 38), args := #[Operand.tmp 102], argTypes := #[90] }, type := 37, pos := "ref.go:279", after := #[{ on := 7, ground := Ground.data }], guard := none }) rfl (fun K hK => ?_) AllReadyH.nil)
          · have hc2017 := (rwc6 HGWd_2016.out).2.2.2.1
            go_simp
            clear hc2017
            have hS2017 : SF wb gr (.slice Av nv cv) wn2016 := hH2016
            refine hK.out _ _ hS2017 (fun hH2017 => ?_)
            have hH2017 : SF wb gr (.slice Av nv cv) wn2016 := hH2017
            clear hK K hS2017
            try simp only [Act.put, List.setIfInBounds_toArray, List.set_cons_zero, List.set_cons_succ]
            refine wpAnyH_ready (rs := [8]) (by kernel_rfl) (by simp) ?_
            refine AllReadyH.cons (o := { dst := some 103, op := Op.call { callee := Callee.value (Operand.func 38), args := #[Operand.tmp 102], argTypes := #[90] }, type := 37, pos := "ref.go:279", after := #[{ on := 7, ground := Ground.data }], guard := none }) rfl (fun K hK => ?_) AllReadyH.nil
            go_simp
            refine (join_boxW [⟨A, sz, cap, d⟩] 1 rfl rfl AX2016.out (by intro r hr; obtain rfl := List.mem_singleton.1 hr; exact HROW.out _ (hH2017)) (by simp) (by show ([⟨A, sz, cap, d⟩].flatMap BRow.l).length ≤ _; simp; have := HDL.out; omega) (l := d) (by simp [flat])).mono ?_
            rintro e' wn2018 ⟨Ac2018, nc2018, rc, rfl, hnc2018, ho2018, hb2018⟩
            obtain rfl : sz = nc2018 := (hnc2018.out.trans HDL.out).symm
            obtain ⟨rg, rcc2018, hv2018, hg2018, hl2018⟩ := ho2018.form (by have := HS1.out; omega)
            injection hv2018 with e12018 e22018 e32018
            subst e12018 e32018
            have HNW2018 : Hid (RNew w gr (.slice Av nv cv) rg 0 sz d wn2018) := Lib.hid (rnew_of HVL.out HGL.out HBL.out (hH2017).fr.size hg2018 hl2018 (Row.of_own ho2018))
            clear ho2018 hnc2018
            go_simp
            have HRWd_2018 := Lib.hid (HRWd_2016.out.below hb2018)
            have HGWd_2018 := Lib.hid ((hb2018.block gr LGWd_2016.out).trans HGWd_2016.out)
            have LGWd_2018 := Lib.hid (Nat.lt_of_lt_of_le LGWd_2016.out hb2018.size)
            have AX2016_2018 := Lib.hid ((hb2018.block wd2000.heap.size AL2016.out).trans AX2016.out)
            have AL2016_2018 := Lib.hid (Nat.lt_of_lt_of_le AL2016.out hb2018.size)
            have hS2018 : SF wb gr (.slice Av nv cv) wn2018 := ((hH2017).below hb2018)
            refine hK.out _ _ hS2018 (fun hH2018 => ?_)
            have hH2018 : SF wb gr (.slice Av nv cv) wn2018 := hH2018
            clear hK K hS2018
            try simp only [Act.put, List.setIfInBounds_toArray, List.set_cons_zero, List.set_cons_succ]
            refine wpAnyH_take (i := 9) (oi := { dst := some 104, op := Op.build 77 #[(0, Operand.tmp 100), (1, Operand.tmp 103)], type := 77, pos := "ref.go:279", after := #[{ on := 5, ground := Ground.data }, { on := 8, ground := Ground.data }], guard := none }) (v := ?tkv2019) rfl (by kernel_rfl) (by kernel_rfl) (by kernel_rfl) (fun _ _ _ h => h) (Or.inl ⟨by rfl, ?tky2019⟩) hH2018 ?tkr2019
            case tky2019 => (intro w' hSw; clear hSw; go_simp; try with_reducible rfl)
            try simp only [Act.put, List.setIfInBounds_toArray, List.set_cons_zero, List.set_cons_succ]
            refine wpAnyH_ready (rs := [10]) (by kernel_rfl) (by simp) ?_
            refine AllReadyH.cons (o := { dst := some 105, op := Op.buildSlice 44 1 #[(0, Operand.tmp 104)], type := 44, pos := "ref.go:279", after := #[{ on := 9, ground := Ground.data }], guard := none }) rfl (fun K hK => ?_) AllReadyH.nil
            go_simp
            have hb2020 : Below wn2018.heap.size wn2018 (wn2018.alloc (.cells #[.int .u32 (id : Int), .slice (some ⟨rg, 0, none⟩) sz rc] 77)) := (Below.refl _ _).alloc (Nat.le_refl _) _
            have AX2020 : Hid ((wn2018.alloc (.cells #[.int .u32 (id : Int), .slice (some ⟨rg, 0, none⟩) sz rc] 77)).heap[wn2018.heap.size]? = some (.cells #[.int .u32 (id : Int), .slice (some ⟨rg, 0, none⟩) sz rc] 77 (0, 0))) := Lib.hid (heap_alloc_new _ _)
            have AL2020 : Hid (wn2018.heap.size < (wn2018.alloc (.cells #[.int .u32 (id : Int), .slice (some ⟨rg, 0, none⟩) sz rc] 77)).heap.size) := Lib.hid (by simp)
            generalize (wn2018.alloc (.cells #[.int .u32 (id : Int), .slice (some ⟨rg, 0, none⟩) sz rc] 77)) = wn2020 at *
            have HRWd_2020 := Lib.hid (HRWd_2018.out.below hb2020)
            have HGWd_2020 := Lib.hid ((hb2020.block gr LGWd_2018.out).trans HGWd_2018.out)
            have LGWd_2020 := Lib.hid (Nat.lt_of_lt_of_le LGWd_2018.out hb2020.size)
            have AX2016_2020 := Lib.hid ((hb2020.block wd2000.heap.size AL2016_2018.out).trans AX2016_2018.out)
            have AL2016_2020 := Lib.hid (Nat.lt_of_lt_of_le AL2016_2018.out hb2020.size)
            have HNW2018_2020 := Lib.hid (HNW2018.out.below hb2020)
            have hS2020 : SF wb gr (.slice Av nv cv) wn2020 := ((hH2018).below hb2020)
            refine hK.out _ _ hS2020 (fun hH2020 => ?_)
            have hH2020 : SF wb gr (.slice Av nv cv) wn2020 := hH2020
            clear hK K hS2020
            try simp only [Act.put, List.setIfInBounds_toArray, List.set_cons_zero, List.set_cons_succ]
            refine wpAnyH_ready (rs := [11]) (by kernel_rfl) (by simp) ?_
            refine AllReadyH.cons (o := { dst := some 106, op := Op.call { callee := Callee.builtin Builtin.append, args := #[Operand.tmp 99, Operand.tmp 105], argTypes := #[44, 44] }, type := 44, pos := "ref.go:279", after := #[{ on := 4, ground := Ground.data }, { on := 10, ground := Ground.data }, { on := 8, ground := Ground.chain }], guard := none }) rfl (fun K hK => ?_) AllReadyH.nil
            rw [if_pos (by rfl)]
            refine wp_app2 (.tmp 99) (.tmp 105) 44 rfl 0 77 i0 _ 32 Try.underlying44 hi hz0 hz1 hz2 rfl _ nv _ rfl HRWd_2020.out.1 _ 1 _ _ 77 rfl AX2020.out rfl rfl (by have := HNV.out; unfold maxLen; omega) (by have := HNV.out; omega) (Nat.zero_le _) ?_
            intro v4 w4 hown4 hg4 hat4
            obtain ⟨A4, c4, rfl⟩ := own2_form hown4
            have HAPP := Lib.hid (rwh_grow (h := { x with ready := (qs : Int) }) HGWd_2020.out HPG.out HPM.out HPB.out HGM.out HGB.out (Nat.le_trans HBL.out (hH2020).fr.size) HRWd_2020.out HES.out HNW2018_2020.out hown4 hg4 hat4)
            have hS2021 : SF wb gr (.slice Av nv cv) w4 := ((hH2020).app hg4)
            refine hK.out _ _ hS2021 (fun hH2021 => ?_)
            have hH2021 : SF wb gr (.slice Av nv cv) w4 := hH2021
            clear hK K hS2021
            try simp only [Act.put, List.setIfInBounds_toArray, List.set_cons_zero, List.set_cons_succ]
            refine wpAnyH_take (i := 12) (oi := { dst := some 107, op := Op.nilCheck (Operand.tmp 95), type := 0, pos := "ref.go:279", after := #[{ on := 0, ground := Ground.data }, { on := 0, ground := Ground.phase }, { on := 1, ground := Ground.phase }, { on := 2, ground := Ground.phase }, { on := 3, ground := Ground.phase }, { on := 4, ground := Ground.phase }, { on := 5, ground := Ground.phase }, { on := 6, ground := Ground.phase }, { on := 7, ground := Ground.phase }, { on := 8, ground := Ground.phase }, { on := 9, ground := Ground.phase }, { on := 10, ground := Ground.phase }, { on := 11, ground := Ground.phase }], guard := none }) (v := ?tkv2022) rfl (by kernel_rfl) (by kernel_rfl) (by kernel_rfl) (fun _ _ _ h => h) (Or.inl ⟨by rfl, ?tky2022⟩) hH2021 ?tkr2022
            case tky2022 => (intro w' hSw; clear hSw; go_simp; try with_reducible rfl)
            try simp only [Act.put, List.setIfInBounds_toArray, List.set_cons_zero, List.set_cons_succ]
            refine wpAnyH_take (i := 13) (oi := { dst := some 108, op := Op.fieldAddr 47 (Operand.tmp 107) 3, type := 0, pos := "ref.go:279", after := #[{ on := 12, ground := Ground.data }, { on := 0, ground := Ground.phase }, { on := 1, ground := Ground.phase }, { on := 2, ground := Ground.phase }, { on := 3, ground := Ground.phase }, { on := 4, ground := Ground.phase }, { on := 5, ground := Ground.phase }, { on := 6, ground := Ground.phase }, { on := 7, ground := Ground.phase }, { on := 8, ground := Ground.phase }, { on := 9, ground := Ground.phase }, { on := 10, ground := Ground.phase }, { on := 11, ground := Ground.phase }], guard := none }) (v := ?tkv2023) rfl (by kernel_rfl) (by kernel_rfl) (by kernel_rfl) (fun _ _ _ h => h) (Or.inl ⟨by rfl, ?tky2023⟩) hH2021 ?tkr2023
            case tky2023 => (intro w' hSw; clear hSw; go_simp; try with_reducible rfl)
            try simp only [Act.put, List.setIfInBounds_toArray, List.set_cons_zero, List.set_cons_succ]
            refine wpAnyH_ready (rs := [14]) (by kernel_rfl) (by simp) ?_
            refine AllReadyH.cons (o := { dst := none, op := Op.store 44 (Operand.tmp 108) (Operand.tmp 106), type := 0, pos := "ref.go:279", after := #[{ on := 13, ground := Ground.data }, { on := 11, ground := Ground.data }, { on := 11, ground := Ground.chain }, { on := 0, ground := Ground.phase }, { on := 1, ground := Ground.phase }, { on := 2, ground := Ground.phase }, { on := 3, ground := Ground.phase }, { on := 4, ground := Ground.phase }, { on := 5, ground := Ground.phase }, { on := 6, ground := Ground.phase }, { on := 7, ground := Ground.phase }, { on := 8, ground := Ground.phase }, { on := 9, ground := Ground.phase }, { on := 10, ground := Ground.phase }, { on := 11, ground := Ground.phase }], guard := none }) rfl (fun K hK => ?_) AllReadyH.nil
            have q2024 := rwc6 HAPP.out.1
            have y2024 := q2024.2.2.2.1
            have z2024 := q2024.2.2.2.2.2.2.1
            go_simp
            clear q2024 y2024 z2024
            have hS2024 : SF wb gr (.slice Av nv cv) (w4.setCell ⟨gr, 3, none⟩ (.slice A4 (nv + 1) c4)) := ((hH2021).set 3 (.slice A4 (nv + 1) c4))
            refine hK.out _ _ hS2024 (fun hH2024 => ?_)
            have hH2024 : SF wb gr (.slice Av nv cv) (w4.setCell ⟨gr, 3, none⟩ (.slice A4 (nv + 1) c4)) := hH2024
            clear hK K hS2024
            refine wpAnyH_done (by kernel_rfl) ?_ _
            refine NoPanic.normal ?_
            have HSE := Lib.hid (hH2024)
            have HW9 := HAPP.out.2
            have HFR9 : Hid (Frm w (w4.setCell ⟨gr, 3, none⟩ (.slice A4 (nv + 1) c4)) (RF P gm gB)) := HFB.out.trans HSE.out.fr (fun b hb h => by
              rcases h with h | h
              · rw [h]; exact .inl HPG.out
              · exact .inl (HRW.out.2.1 b h).1)
            have HF9 : Hid (RfAt (w4.setCell ⟨gr, 3, none⟩ (.slice A4 (nv + 1) c4)) gm gB f3) := Lib.hid (HF8.out.keep (HSE.out.fr.block gm HF8.out.ltm (by
                rintro (h | h)
                · exact HPM.out (by rw [h]; exact HPG.out)
                · exact HPM.out (HRW.out.2.1 gm h).1)) (HSE.out.fr.block gB HF8.out.ltB (by
                rintro (h | h)
                · exact HPB.out (by rw [h]; exact HPG.out)
                · exact HPB.out (HRW.out.2.1 gB h).1)))
            have hz9 := HAPP.out.1
            obtain ⟨W5, hW5⟩ : ∃ W5, w4.setCell ⟨gr, 3, none⟩ (.slice A4 (nv + 1) c4) = W5 := ⟨_, rfl⟩
            have hs5 : W5.heap.size = w4.heap.size := by rw [← hW5]; simp [World.setCell]
            rw [hW5] at HW9 HFR9 HF9 ⊢
            have HWc9 := HW9
            obtain ⟨Ay, ny, cy, ey, hy, -, -, -, -⟩ := HWc9
            have q5 := rwc6 hy
            have y5 := q5.2.2.2.2.2.1
            have z5 := q5.2.2.2.2.2.2.2.2
            have y5' : W5.cell? ⟨gr, 5, none⟩ = some (.int .i64 (nn : Int)) := by rw [y5, ← HNN.out]
            have HW10 := Lib.hid (HW9.next (nn + 1) ((nn : Int) + 1) (by push_cast; rfl))
            have HE5 := Lib.hid hs5
            clear hW5 hy q5 y5 HSE HAPP hz9 HW9 hs5
            go_wp2_with fail
            go_ret
            refine ⟨?_, ?_, ?_, ?_⟩
            · rw [HRES.out]; rfl
            · rw [HRES.out, ← HX1.out]
              have e : (W5.setCell ⟨gr, 5, none⟩ (.int .i64 ((nn : Int) + 1))).heap.size = w4.heap.size := by rw [← HE5.out]; simp [World.setCell]
              unfold Pn
              rw [e]
              exact HW10
            · rw [HRES.out]
              exact Lib.hid (HF9.out.keep (heap_setCell_other W5 ⟨gr, 5, none⟩ gm _ (fun e => HPM.out (by rw [e]; exact HPG.out))) (heap_setCell_other W5 ⟨gr, 5, none⟩ gB _ (fun e => HPB.out (by rw [e]; exact HPG.out))))
            · exact HFR9.out.trans (Frm.of_grown (F := fun b => b = gr) (grown_set W5 gr 5 _) (fun g h _ => by injection h with h; exact h.symm)) (fun b _ h => by rw [h]; exact .inl HPG.out)
          · go_simp
            refine (join_boxW [⟨A, sz, cap, d⟩] 1 rfl rfl AX2016.out (by intro r hr; obtain rfl := List.mem_singleton.1 hr; exact HROW.out _ (hH2016)) (by simp) (by show ([⟨A, sz, cap, d⟩].flatMap BRow.l).length ≤ _; simp; have := HDL.out; omega) (l := d) (by simp [flat])).mono ?_
            rintro e' wn2025 ⟨Ac2025, nc2025, rc, rfl, hnc2025, ho2025, hb2025⟩
            obtain rfl : sz = nc2025 := (hnc2025.out.trans HDL.out).symm
            obtain ⟨rg, rcc2025, hv2025, hg2025, hl2025⟩ := ho2025.form (by have := HS1.out; omega)
            injection hv2025 with e12025 e22025 e32025
            subst e12025 e32025
            have HNW2025 : Hid (RNew w gr (.slice Av nv cv) rg 0 sz d wn2025) := Lib.hid (rnew_of HVL.out HGL.out HBL.out (hH2016).fr.size hg2025 hl2025 (Row.of_own ho2025))
            clear ho2025 hnc2025
            go_simp
            have HRWd_2025 := Lib.hid (HRWd_2016.out.below hb2025)
            have HGWd_2025 := Lib.hid ((hb2025.block gr LGWd_2016.out).trans HGWd_2016.out)
            have LGWd_2025 := Lib.hid (Nat.lt_of_lt_of_le LGWd_2016.out hb2025.size)
            have AX2016_2025 := Lib.hid ((hb2025.block wd2000.heap.size AL2016.out).trans AX2016.out)
            have AL2016_2025 := Lib.hid (Nat.lt_of_lt_of_le AL2016.out hb2025.size)
            have hS2025 : SF wb gr (.slice Av nv cv) wn2025 := ((hH2016).below hb2025)
            refine hK.out _ _ hS2025 (fun hH2025 => ?_)
            have hH2025 : SF wb gr (.slice Av nv cv) wn2025 := hH2025
            clear hK K hS2025
            try simp only [Act.put, List.setIfInBounds_toArray, List.set_cons_zero, List.set_cons_succ]
            refine wpAnyH_take (i := 9) (oi := { dst := some 104, op := Op.build 77 #[(0, Operand.tmp 100), (1, Operand.tmp 103)], type := 77, pos := "ref.go:279", after := #[{ on := 5, ground := Ground.data }, { on := 8, ground := Ground.data }], guard := none }) (v := ?tkv2026) rfl (by kernel_rfl) (by kernel_rfl) (by kernel_rfl) (fun _ _ _ h => h) (Or.inl ⟨by rfl, ?tky2026⟩) hH2025 ?tkr2026
            case tky2026 => (intro w' hSw; clear hSw; go_simp; try with_reducible rfl)
            try simp only [Act.put, List.setIfInBounds_toArray, List.set_cons_zero, List.set_cons_succ]
            refine wpAnyH_ready (rs := [4, 10]) (by kernel_rfl) (by simp) ?_
            refine AllReadyH.cons (o := { dst := some 99, op := Op.load 44 (Operand.tmp 98), type := 44, pos := "ref.go:279", after := #[{ on := 3, ground := Ground.data }], guard := none }) rfl (fun K hK => ?_) (AllReadyH.cons (o := { dst := some 105, op := Op.buildSlice 44 1 #[(0, Operand.tmp 104)], type := 44, pos := "ref.go:279", after := #[{ on := 9, ground := Ground.data }], guard := none }) rfl (fun K hK => ?_) AllReadyH.nil)
            · have hc2027 := (rwc6 HGWd_2025.out).2.2.2.1
              go_simp
              clear hc2027
              have hS2027 : SF wb gr (.slice Av nv cv) wn2025 := hH2025
              refine hK.out _ _ hS2027 (fun hH2027 => ?_)
              have hH2027 : SF wb gr (.slice Av nv cv) wn2025 := hH2027
              clear hK K hS2027
              try simp only [Act.put, List.setIfInBounds_toArray, List.set_cons_zero, List.set_cons_succ]
              refine wpAnyH_ready (rs := [10]) (by kernel_rfl) (by simp) ?_
              refine AllReadyH.cons (o := { dst := some 105, op := Op.buildSlice 44 1 #[(0, Operand.tmp 104)], type := 44, pos := "ref.go:279", after := #[{ on := 9, ground := Ground.data }], guard := none }) rfl (fun K hK => ?_) AllReadyH.nil
              go_simp
              have hb2028 : Below wn2025.heap.size wn2025 (wn2025.alloc (.cells #[.int .u32 (id : Int), .slice (some ⟨rg, 0, none⟩) sz rc] 77)) := (Below.refl _ _).alloc (Nat.le_refl _) _
              have AX2028 : Hid ((wn2025.alloc (.cells #[.int .u32 (id : Int), .slice (some ⟨rg, 0, none⟩) sz rc] 77)).heap[wn2025.heap.size]? = some (.cells #[.int .u32 (id : Int), .slice (some ⟨rg, 0, none⟩) sz rc] 77 (0, 0))) := Lib.hid (heap_alloc_new _ _)
              have AL2028 : Hid (wn2025.heap.size < (wn2025.alloc (.cells #[.int .u32 (id : Int), .slice (some ⟨rg, 0, none⟩) sz rc] 77)).heap.size) := Lib.hid (by simp)
              generalize (wn2025.alloc (.cells #[.int .u32 (id : Int), .slice (some ⟨rg, 0, none⟩) sz rc] 77)) = wn2028 at *
              have HRWd_2028 := Lib.hid (HRWd_2025.out.below hb2028)
              have HGWd_2028 := Lib.hid ((hb2028.block gr LGWd_2025.out).trans HGWd_2025.out)
              have LGWd_2028 := Lib.hid (Nat.lt_of_lt_of_le LGWd_2025.out hb2028.size)
              have AX2016_2028 := Lib.hid ((hb2028.block wd2000.heap.size AL2016_2025.out).trans AX2016_2025.out)
              have AL2016_2028 := Lib.hid (Nat.lt_of_lt_of_le AL2016_2025.out hb2028.size)
              have HNW2025_2028 := Lib.hid (HNW2025.out.below hb2028)
              have hS2028 : SF wb gr (.slice Av nv cv) wn2028 := ((hH2027).below hb2028)
              refine hK.out _ _ hS2028 (fun hH2028 => ?_)
              have hH2028 : SF wb gr (.slice Av nv cv) wn2028 := hH2028
              clear hK K hS2028
              try simp only [Act.put, List.setIfInBounds_toArray, List.set_cons_zero, List.set_cons_succ]
              refine wpAnyH_ready (rs := [11]) (by kernel_rfl) (by simp) ?_
              refine AllReadyH.cons (o := { dst := some 106, op := Op.call { callee := Callee.builtin Builtin.append, args := #[Operand.tmp 99, Operand.tmp 105], argTypes := #[44, 44] }, type := 44, pos := "ref.go:279", after := #[{ on := 4, ground := Ground.data }, { on := 10, ground := Ground.data }, { on := 8, ground := Ground.chain }], guard := none }) rfl (fun K hK => ?_) AllReadyH.nil
              rw [if_pos (by rfl)]
              refine wp_app2 (.tmp 99) (.tmp 105) 44 rfl 0 77 i0 _ 32 Try.underlying44 hi hz0 hz1 hz2 rfl _ nv _ rfl HRWd_2028.out.1 _ 1 _ _ 77 rfl AX2028.out rfl rfl (by have := HNV.out; unfold maxLen; omega) (by have := HNV.out; omega) (Nat.zero_le _) ?_
              intro v4 w4 hown4 hg4 hat4
              obtain ⟨A4, c4, rfl⟩ := own2_form hown4
              have HAPP := Lib.hid (rwh_grow (h := { x with ready := (qs : Int) }) HGWd_2028.out HPG.out HPM.out HPB.out HGM.out HGB.out (Nat.le_trans HBL.out (hH2028).fr.size) HRWd_2028.out HES.out HNW2025_2028.out hown4 hg4 hat4)
              have hS2029 : SF wb gr (.slice Av nv cv) w4 := ((hH2028).app hg4)
              refine hK.out _ _ hS2029 (fun hH2029 => ?_)
              have hH2029 : SF wb gr (.slice Av nv cv) w4 := hH2029
              clear hK K hS2029
              try simp only [Act.put, List.setIfInBounds_toArray, List.set_cons_zero, List.set_cons_succ]
              refine wpAnyH_take (i := 12) (oi := { dst := some 107, op := Op.nilCheck (Operand.tmp 95), type := 0, pos := "ref.go:279", after := #[{ on := 0, ground := Ground.data }, { on := 0, ground := Ground.phase }, { on := 1, ground := Ground.phase }, { on := 2, ground := Ground.phase }, { on := 3, ground := Ground.phase }, { on := 4, ground := Ground.phase }, { on := 5, ground := Ground.phase }, { on := 6, ground := Ground.phase }, { on := 7, ground := Ground.phase }, { on := 8, ground := Ground.phase }, { on := 9, ground := Ground.phase }, { on := 10, ground := Ground.phase }, { on := 11, ground := Ground.phase }], guard := none }) (v := ?tkv2030) rfl (by kernel_rfl) (by kernel_rfl) (by kernel_rfl) (fun _ _ _ h => h) (Or.inl ⟨by rfl, ?tky2030⟩) hH2029 ?tkr2030
              case tky2030 => (intro w' hSw; clear hSw; go_simp; try with_reducible rfl)
              try simp only [Act.put, List.setIfInBounds_toArray, List.set_cons_zero, List.set_cons_succ]
              refine wpAnyH_take (i := 13) (oi := { dst := some 108, op := Op.fieldAddr 47 (Operand.tmp 107) 3, type := 0, pos := "ref.go:279", after := #[{ on := 12, ground := Ground.data }, { on := 0, ground := Ground.phase }, { on := 1, ground := Ground.phase }, { on := 2, ground := Ground.phase }, { on := 3, ground := Ground.phase }, { on := 4, ground := Ground.phase }, { on := 5, ground := Ground.phase }, { on := 6, ground := Ground.phase }, { on := 7, ground := Ground.phase }, { on := 8, ground := Ground.phase }, { on := 9, ground := Ground.phase }, { on := 10, ground := Ground.phase }, { on := 11, ground := Ground.phase }], guard := none }) (v := ?tkv2031) rfl (by kernel_rfl) (by kernel_rfl) (by kernel_rfl) (fun _ _ _ h => h) (Or.inl ⟨by rfl, ?tky2031⟩) hH2029 ?tkr2031
              case tky2031 => (intro w' hSw; clear hSw; go_simp; try with_reducible rfl)
              try simp only [Act.put, List.setIfInBounds_toArray, List.set_cons_zero, List.set_cons_succ]
              refine wpAnyH_ready (rs := [14]) (by kernel_rfl) (by simp) ?_
              refine AllReadyH.cons (o := { dst := none, op := Op.store 44 (Operand.tmp 108) (Operand.tmp 106), type := 0, pos := "ref.go:279", after := #[{ on := 13, ground := Ground.data }, { on := 11, ground := Ground.data }, { on := 11, ground := Ground.chain }, { on := 0, ground := Ground.phase }, { on := 1, ground := Ground.phase }, { on := 2, ground := Ground.phase }, { on := 3, ground := Ground.phase }, { on := 4, ground := Ground.phase }, { on := 5, ground := Ground.phase }, { on := 6, ground := Ground.phase }, { on := 7, ground := Ground.phase }, { on := 8, ground := Ground.phase }, { on := 9, ground := Ground.phase }, { on := 10, ground := Ground.phase }, { on := 11, ground := Ground.phase }], guard := none }) rfl (fun K hK => ?_) AllReadyH.nil
              have q2032 := rwc6 HAPP.out.1
              have y2032 := q2032.2.2.2.1
              have z2032 := q2032.2.2.2.2.2.2.1
              go_simp
              clear q2032 y2032 z2032
              have hS2032 : SF wb gr (.slice Av nv cv) (w4.setCell ⟨gr, 3, none⟩ (.slice A4 (nv + 1) c4)) := ((hH2029).set 3 (.slice A4 (nv + 1) c4))
              refine hK.out _ _ hS2032 (fun hH2032 => ?_)
              have hH2032 : SF wb gr (.slice Av nv cv) (w4.setCell ⟨gr, 3, none⟩ (.slice A4 (nv + 1) c4)) := hH2032
              clear hK K hS2032
              refine wpAnyH_done (by kernel_rfl) ?_ _
              refine NoPanic.normal ?_
              have HSE := Lib.hid (hH2032)
              have HW9 := HAPP.out.2
              have HFR9 : Hid (Frm w (w4.setCell ⟨gr, 3, none⟩ (.slice A4 (nv + 1) c4)) (RF P gm gB)) := HFB.out.trans HSE.out.fr (fun b hb h => by
                rcases h with h | h
                · rw [h]; exact .inl HPG.out
                · exact .inl (HRW.out.2.1 b h).1)
              have HF9 : Hid (RfAt (w4.setCell ⟨gr, 3, none⟩ (.slice A4 (nv + 1) c4)) gm gB f3) := Lib.hid (HF8.out.keep (HSE.out.fr.block gm HF8.out.ltm (by
                  rintro (h | h)
                  · exact HPM.out (by rw [h]; exact HPG.out)
                  · exact HPM.out (HRW.out.2.1 gm h).1)) (HSE.out.fr.block gB HF8.out.ltB (by
                  rintro (h | h)
                  · exact HPB.out (by rw [h]; exact HPG.out)
                  · exact HPB.out (HRW.out.2.1 gB h).1)))
              have hz9 := HAPP.out.1
              obtain ⟨W5, hW5⟩ : ∃ W5, w4.setCell ⟨gr, 3, none⟩ (.slice A4 (nv + 1) c4) = W5 := ⟨_, rfl⟩
              have hs5 : W5.heap.size = w4.heap.size := by rw [← hW5]; simp [World.setCell]
              rw [hW5] at HW9 HFR9 HF9 ⊢
              have HWc9 := HW9
              obtain ⟨Ay, ny, cy, ey, hy, -, -, -, -⟩ := HWc9
              have q5 := rwc6 hy
              have y5 := q5.2.2.2.2.2.1
              have z5 := q5.2.2.2.2.2.2.2.2
              have y5' : W5.cell? ⟨gr, 5, none⟩ = some (.int .i64 (nn : Int)) := by rw [y5, ← HNN.out]
              have HW10 := Lib.hid (HW9.next (nn + 1) ((nn : Int) + 1) (by push_cast; rfl))
              have HE5 := Lib.hid hs5
              clear hW5 hy q5 y5 HSE HAPP hz9 HW9 hs5
              go_wp2_with fail
              go_ret
              refine ⟨?_, ?_, ?_, ?_⟩
              · rw [HRES.out]; rfl
              · rw [HRES.out, ← HX1.out]
                have e : (W5.setCell ⟨gr, 5, none⟩ (.int .i64 ((nn : Int) + 1))).heap.size = w4.heap.size := by rw [← HE5.out]; simp [World.setCell]
                unfold Pn
                rw [e]
                exact HW10
              · rw [HRES.out]
                exact Lib.hid (HF9.out.keep (heap_setCell_other W5 ⟨gr, 5, none⟩ gm _ (fun e => HPM.out (by rw [e]; exact HPG.out))) (heap_setCell_other W5 ⟨gr, 5, none⟩ gB _ (fun e => HPB.out (by rw [e]; exact HPG.out))))
              · exact HFR9.out.trans (Frm.of_grown (F := fun b => b = gr) (grown_set W5 gr 5 _) (fun g h _ => by injection h with h; exact h.symm)) (fun b _ h => by rw [h]; exact .inl HPG.out)
            · go_simp
              have hb2033 : Below wn2025.heap.size wn2025 (wn2025.alloc (.cells #[.int .u32 (id : Int), .slice (some ⟨rg, 0, none⟩) sz rc] 77)) := (Below.refl _ _).alloc (Nat.le_refl _) _
              have AX2033 : Hid ((wn2025.alloc (.cells #[.int .u32 (id : Int), .slice (some ⟨rg, 0, none⟩) sz rc] 77)).heap[wn2025.heap.size]? = some (.cells #[.int .u32 (id : Int), .slice (some ⟨rg, 0, none⟩) sz rc] 77 (0, 0))) := Lib.hid (heap_alloc_new _ _)
              have AL2033 : Hid (wn2025.heap.size < (wn2025.alloc (.cells #[.int .u32 (id : Int), .slice (some ⟨rg, 0, none⟩) sz rc] 77)).heap.size) := Lib.hid (by simp)
              generalize (wn2025.alloc (.cells #[.int .u32 (id : Int), .slice (some ⟨rg, 0, none⟩) sz rc] 77)) = wn2033 at *
              have HRWd_2033 := Lib.hid (HRWd_2025.out.below hb2033)
              have HGWd_2033 := Lib.hid ((hb2033.block gr LGWd_2025.out).trans HGWd_2025.out)
              have LGWd_2033 := Lib.hid (Nat.lt_of_lt_of_le LGWd_2025.out hb2033.size)
              have AX2016_2033 := Lib.hid ((hb2033.block wd2000.heap.size AL2016_2025.out).trans AX2016_2025.out)
              have AL2016_2033 := Lib.hid (Nat.lt_of_lt_of_le AL2016_2025.out hb2033.size)
              have HNW2025_2033 := Lib.hid (HNW2025.out.below hb2033)
              have hS2033 : SF wb gr (.slice Av nv cv) wn2033 := ((hH2025).below hb2033)
              refine hK.out _ _ hS2033 (fun hH2033 => ?_)
              have hH2033 : SF wb gr (.slice Av nv cv) wn2033 := hH2033
              clear hK K hS2033
              try simp only [Act.put, List.setIfInBounds_toArray, List.set_cons_zero, List.set_cons_succ]
              refine wpAnyH_ready (rs := [4]) (by kernel_rfl) (by simp) ?_
              refine AllReadyH.cons (o := { dst := some 99, op := Op.load 44 (Operand.tmp 98), type := 44, pos := "ref.go:279", after := #[{ on := 3, ground := Ground.data }], guard := none }) rfl (fun K hK => ?_) AllReadyH.nil
              have hc2034 := (rwc6 HGWd_2033.out).2.2.2.1
              go_simp
              clear hc2034
              have hS2034 : SF wb gr (.slice Av nv cv) wn2033 := hH2033
              refine hK.out _ _ hS2034 (fun hH2034 => ?_)
              have hH2034 : SF wb gr (.slice Av nv cv) wn2033 := hH2034
              clear hK K hS2034
              try simp only [Act.put, List.setIfInBounds_toArray, List.set_cons_zero, List.set_cons_succ]
              refine wpAnyH_ready (rs := [11]) (by kernel_rfl) (by simp) ?_
              refine AllReadyH.cons (o := { dst := some 106, op := Op.call { callee := Callee.builtin Builtin.append, args := #[Operand.tmp 99, Operand.tmp 105], argTypes := #[44, 44] }, type := 44, pos := "ref.go:279", after := #[{ on := 4, ground := Ground.data }, { on := 10, ground := Ground.data }, { on := 8, ground := Ground.chain }], guard := none }) rfl (fun K hK => ?_) AllReadyH.nil
              rw [if_pos (by rfl)]
              refine wp_app2 (.tmp 99) (.tmp 105) 44 rfl 0 77 i0 _ 32 Try.underlying44 hi hz0 hz1 hz2 rfl _ nv _ rfl HRWd_2033.out.1 _ 1 _ _ 77 rfl AX2033.out rfl rfl (by have := HNV.out; unfold maxLen; omega) (by have := HNV.out; omega) (Nat.zero_le _) ?_
              intro v4 w4 hown4 hg4 hat4
              obtain ⟨A4, c4, rfl⟩ := own2_form hown4
              have HAPP := Lib.hid (rwh_grow (h := { x with ready := (qs : Int) }) HGWd_2033.out HPG.out HPM.out HPB.out HGM.out HGB.out (Nat.le_trans HBL.out (hH2034).fr.size) HRWd_2033.out HES.out HNW2025_2033.out hown4 hg4 hat4)
              have hS2035 : SF wb gr (.slice Av nv cv) w4 := ((hH2034).app hg4)
              refine hK.out _ _ hS2035 (fun hH2035 => ?_)
              have hH2035 : SF wb gr (.slice Av nv cv) w4 := hH2035
              clear hK K hS2035
              try simp only [Act.put, List.setIfInBounds_toArray, List.set_cons_zero, List.set_cons_succ]
              refine wpAnyH_take (i := 12) (oi := { dst := some 107, op := Op.nilCheck (Operand.tmp 95), type := 0, pos := "ref.go:279", after := #[{ on := 0, ground := Ground.data }, { on := 0, ground := Ground.phase }, { on := 1, ground := Ground.phase }, { on := 2, ground := Ground.phase }, { on := 3, ground := Ground.phase }, { on := 4, ground := Ground.phase }, { on := 5, ground := Ground.phase }, { on := 6, ground := Ground.phase }, { on := 7, ground := Ground.phase }, { on := 8, ground := Ground.phase }, { on := 9, ground := Ground.phase }, { on := 10, ground := Ground.phase }, { on := 11, ground := Ground.phase }], guard := none }) (v := ?tkv2036) rfl (by kernel_rfl) (by kernel_rfl) (by kernel_rfl) (fun _ _ _ h => h) (Or.inl ⟨by rfl, ?tky2036⟩) hH2035 ?tkr2036
              case tky2036 => (intro w' hSw; clear hSw; go_simp; try with_reducible rfl)
              try simp only [Act.put, List.setIfInBounds_toArray, List.set_cons_zero, List.set_cons_succ]
              refine wpAnyH_take (i := 13) (oi := { dst := some 108, op := Op.fieldAddr 47 (Operand.tmp 107) 3, type := 0, pos := "ref.go:279", after := #[{ on := 12, ground := Ground.data }, { on := 0, ground := Ground.phase }, { on := 1, ground := Ground.phase }, { on := 2, ground := Ground.phase }, { on := 3, ground := Ground.phase }, { on := 4, ground := Ground.phase }, { on := 5, ground := Ground.phase }, { on := 6, ground := Ground.phase }, { on := 7, ground := Ground.phase }, { on := 8, ground := Ground.phase }, { on := 9, ground := Ground.phase }, { on := 10, ground := Ground.phase }, { on := 11, ground := Ground.phase }], guard := none }) (v := ?tkv2037) rfl (by kernel_rfl) (by kernel_rfl) (by kernel_rfl) (fun _ _ _ h => h) (Or.inl ⟨by rfl, ?tky2037⟩) hH2035 ?tkr2037
              case tky2037 => (intro w' hSw; clear hSw; go_simp; try with_reducible rfl)
              try simp only [Act.put, List.setIfInBounds_toArray, List.set_cons_zero, List.set_cons_succ]
              refine wpAnyH_ready (rs := [14]) (by kernel_rfl) (by simp) ?_
              refine AllReadyH.cons (o := { dst := none, op := Op.store 44 (Operand.tmp 108) (Operand.tmp 106), type := 0, pos := "ref.go:279", after := #[{ on := 13, ground := Ground.data }, { on := 11, ground := Ground.data }, { on := 11, ground := Ground.chain }, { on := 0, ground := Ground.phase }, { on := 1, ground := Ground.phase }, { on := 2, ground := Ground.phase }, { on := 3, ground := Ground.phase }, { on := 4, ground := Ground.phase }, { on := 5, ground := Ground.phase }, { on := 6, ground := Ground.phase }, { on := 7, ground := Ground.phase }, { on := 8, ground := Ground.phase }, { on := 9, ground := Ground.phase }, { on := 10, ground := Ground.phase }, { on := 11, ground := Ground.phase }], guard := none }) rfl (fun K hK => ?_) AllReadyH.nil
              have q2038 := rwc6 HAPP.out.1
              have y2038 := q2038.2.2.2.1
              have z2038 := q2038.2.2.2.2.2.2.1
              go_simp
              clear q2038 y2038 z2038
              have hS2038 : SF wb gr (.slice Av nv cv) (w4.setCell ⟨gr, 3, none⟩ (.slice A4 (nv + 1) c4)) := ((hH2035).set 3 (.slice A4 (nv + 1) c4))
              refine hK.out _ _ hS2038 (fun hH2038 => ?_)
              have hH2038 : SF wb gr (.slice Av nv cv) (w4.setCell ⟨gr, 3, none⟩ (.slice A4 (nv + 1) c4)) := hH2038
              clear hK K hS2038
              refine wpAnyH_done (by kernel_rfl) ?_ _
              refine NoPanic.normal ?_
              have HSE := Lib.hid (hH2038)
              have HW9 := HAPP.out.2
              have HFR9 : Hid (Frm w (w4.setCell ⟨gr, 3, none⟩ (.slice A4 (nv + 1) c4)) (RF P gm gB)) := HFB.out.trans HSE.out.fr (fun b hb h => by
                rcases h with h | h
                · rw [h]; exact .inl HPG.out
                · exact .inl (HRW.out.2.1 b h).1)
              have HF9 : Hid (RfAt (w4.setCell ⟨gr, 3, none⟩ (.slice A4 (nv + 1) c4)) gm gB f3) := Lib.hid (HF8.out.keep (HSE.out.fr.block gm HF8.out.ltm (by
                  rintro (h | h)
                  · exact HPM.out (by rw [h]; exact HPG.out)
                  · exact HPM.out (HRW.out.2.1 gm h).1)) (HSE.out.fr.block gB HF8.out.ltB (by
                  rintro (h | h)
                  · exact HPB.out (by rw [h]; exact HPG.out)
                  · exact HPB.out (HRW.out.2.1 gB h).1)))
              have hz9 := HAPP.out.1
              obtain ⟨W5, hW5⟩ : ∃ W5, w4.setCell ⟨gr, 3, none⟩ (.slice A4 (nv + 1) c4) = W5 := ⟨_, rfl⟩
              have hs5 : W5.heap.size = w4.heap.size := by rw [← hW5]; simp [World.setCell]
              rw [hW5] at HW9 HFR9 HF9 ⊢
              have HWc9 := HW9
              obtain ⟨Ay, ny, cy, ey, hy, -, -, -, -⟩ := HWc9
              have q5 := rwc6 hy
              have y5 := q5.2.2.2.2.2.1
              have z5 := q5.2.2.2.2.2.2.2.2
              have y5' : W5.cell? ⟨gr, 5, none⟩ = some (.int .i64 (nn : Int)) := by rw [y5, ← HNN.out]
              have HW10 := Lib.hid (HW9.next (nn + 1) ((nn : Int) + 1) (by push_cast; rfl))
              have HE5 := Lib.hid hs5
              clear hW5 hy q5 y5 HSE HAPP hz9 HW9 hs5
              go_wp2_with fail
              go_ret
              refine ⟨?_, ?_, ?_, ?_⟩
              · rw [HRES.out]; rfl
              · rw [HRES.out, ← HX1.out]
                have e : (W5.setCell ⟨gr, 5, none⟩ (.int .i64 ((nn : Int) + 1))).heap.size = w4.heap.size := by rw [← HE5.out]; simp [World.setCell]
                unfold Pn
                rw [e]
                exact HW10
              · rw [HRES.out]
                exact Lib.hid (HF9.out.keep (heap_setCell_other W5 ⟨gr, 5, none⟩ gm _ (fun e => HPM.out (by rw [e]; exact HPG.out))) (heap_setCell_other W5 ⟨gr, 5, none⟩ gB _ (fun e => HPB.out (by rw [e]; exact HPG.out))))
              · exact HFR9.out.trans (Frm.of_grown (F := fun b => b = gr) (grown_set W5 gr 5 _) (fun g h _ => by injection h with h; exact h.symm)) (fun b _ h => by rw [h]; exact .inl HPG.out)
      · have h3' : (r3 != 0) = true := by simpa using h3
        have HRE : Hid (R = (X0, f3, r3)) := Lib.hid (by rw [HRRc.out, HRES1.out, if_neg (show ¬ (f3, r3).2 = 0 from h3)])
        clear h3
        go_wp2_with fail
        go_ret
        refine ⟨?_, ?_, ?_, HFR7⟩
        · rw [HRE.out]; rfl
        · rw [HRE.out, ← HX0.out]; exact Lib.hid (HW7.out.pn HGM.out HGB.out)
        · rw [HRE.out]; exact HF7
    · have h2' : (r2 != 0) = true := by simpa using h2
      have HRE : Hid (R = (X0, f2, r2)) := Lib.hid (by rw [HRRc.out, HRES0.out, if_neg (show ¬ (f2, r2).2 = 0 from h2), if_neg (show ¬ (f2, r2).2 = 0 from h2)])
      clear h2
      go_wp2_with fail
      go_ret
      refine ⟨?_, ?_, ?_, HFR6⟩
      · rw [HRE.out]; rfl
      · rw [HRE.out, ← HX0.out]; exact Lib.hid (HW6.out.pn HGM.out HGB.out)
      · rw [HRE.out]; exact HF6
  · have hrd2 : (if rd < 0 then (-1 : Int) else rd + 6) ≠ ((6 + qs : Nat) : Int) := by
      split <;> omega
    obtain ⟨s6, hs6⟩ : ∃ s, 6 + qs = s := ⟨_, rfl⟩
    rw [hs6] at hrd2 ⊢
    obtain ⟨ri, hri⟩ : ∃ r, (if rd < 0 then (-1 : Int) else rd + 6) = r := ⟨_, rfl⟩
    rw [hri] at u4 hrd2
    have hneb : ((s6 : Int) != ri) = true := bne_iff_ne.2 (fun e => hrd2 e.symm)
    have hne2 : ¬ (s6 : Int) = ri := fun e => hrd2 e.symm
    have HPW : Hid (f.prepW x.ready qs = f.clear1 s6) := Lib.hid (by unfold Fl.prepW Fl.clear1; rw [HRD.out, if_neg hrdy, hs6])
    have HCL := Lib.hid (rclear_w gm gB s6 f wr K s6 rfl (HF.out.below HBR.out) HDN.out (by omega) HOK.out (by omega))
    have HD1 := Lib.hid (fun h => (prepW_down f x.ready qs h).trans HDN.out)
    have HOK1 := Lib.hid (HOK.out.prepW x.ready qs)
    have HS6 := Lib.hid hs6
    rw [HPW.out] at HRR HD1 HOK1
    obtain ⟨f1, r1, hE1⟩ : ∃ f1 r1, f.clear1 s6 = (f1, r1) := ⟨_, _, rfl⟩
    rw [hE1] at HRR HD1 HOK1 HCL
    clear hri hrd2 hs6 hrdy hE1 HPW
    go_wp2_with fail
    refine HCL.out.mono ?_
    rintro e wd ⟨rfl, hdd⟩
    dsimp only
    clear HCL u0 u4 hneb hne2
    have HFRd : Hid (Frm w wd (RF P gm gB)) := Lib.hid (HFR.out.trans (frm_gr2 (P := P) hdd.out.2) (fun _ _ h => h))
    have HWd : Hid (RWhAt P gr gm gB x wd) := Lib.hid ((HW.out.below HBR.out).keep (fun b hb hl => hdd.out.2.block b hl (fun e => HPM.out (by rw [← e]; exact hb)) (fun e => HPB.out (by rw [← e]; exact hb))) hdd.out.2.size)
    have HFd := Lib.hid hdd.out.1
    clear hdd
    by_cases h1 : r1 = 0
    · subst h1
      obtain ⟨Aq, nq, cq, eq, hgq, -⟩   := _root_.id HWd.out
      have z4 := (rwc6 hgq).2.2.2.2.2.2.2.1
      have c4 := (rwc6 hgq).2.2.2.2.1
      have HRRc : Hid (R = if (f1.prog a0 (wrec gn id d)).2 = 0 then (X1, (f1.prog a0 (wrec gn id d)).1, 0) else (X0, f1.prog a0 (wrec gn id d))) := Lib.hid (HRR.out.trans (if_pos (show (f1, (0 : Int)).2 = 0 from rfl)))
      have HWc : Hid (RWhAt P gr gm gB { x with ready := (qs : Int) } (wd.setCell ⟨gr, 4, none⟩ (.int .i64 (s6 : Int)))) := Lib.hid (HWd.out.ready (qs : Int) (s6 : Int) (by rw [if_neg (by omega)]; have := HS6.out; omega))
      have HFc : Hid (RfAt (wd.setCell ⟨gr, 4, none⟩ (.int .i64 (s6 : Int))) gm gB f1) := Lib.hid (HFd.out.keep (heap_setCell_other wd ⟨gr, 4, none⟩ gm _ (fun e => HPM.out (by rw [e]; exact HPG.out))) (heap_setCell_other wd ⟨gr, 4, none⟩ gB _ (fun e => HPB.out (by rw [e]; exact HPG.out))))
      have HFRc : Hid (Frm w (wd.setCell ⟨gr, 4, none⟩ (.int .i64 (s6 : Int))) (RF P gm gB)) := Lib.hid (HFRd.out.trans (Frm.of_grown (F := fun b => b = gr) (grown_set wd gr 4 _) (fun g h _ => by injection h with h; exact h.symm)) (fun b _ h => by rw [h]; exact .inl HPG.out))
      have HDc := Lib.hid (HD1.out rfl)
      have HOKc := HOK1
      go_upto_region 13 with fail
      clear hgq z4 c4 HRR HD1 HOK1
      generalize (wd.setCell ⟨gr, 4, none⟩ (.int .i64 (s6 : Int))) = wc at *
      have HLc : Hid (Row wc B A sz (bv d)) := Lib.hid (HL.out.frm (fun b o e _ => by rintro (h | h | h); exact (HA.out b o e).2.2 h; exact (HA.out b o e).1 h; exact (HA.out b o e).2.1 h) HFRc.out hB)
      have HBc : Hid (B ≤ wc.heap.size) := Lib.hid (Nat.le_trans hB HFRc.out.size)
      have HQ : Hid (∀ W : World, Below wc.heap.size wc W → W.cell? ⟨gr, 0, none⟩ = some (.pointer (some ⟨gm, 0, none⟩)) ∧ W.cell? ⟨gr, 1, none⟩ = some (.int .u32 (gn : Int))) := Lib.hid (fun W hb => by
        obtain ⟨Aq, nq, cq, eq, hgq, -⟩ := HWc.out.below hb
        have u := rwc6 hgq
        exact ⟨u.1, by rw [← HGN.out]; exact u.2.1⟩)
      have u1 := (HQ.out wc (Below.refl _ _)).2
      have HM1 := Lib.hid (four_any gn HGL4.out wc)
      go_wp2_with fail
      refine HM1.out.mono ?_
      rintro e w1 ⟨A1, n1, c1, rfl, hn1, ho1, hb1⟩
      obtain rfl : n1 = 4 := hn1.out
      clear hn1 u1 HM1
      have HM1 := Lib.hid (four_any id hid w1)
      go_wp2_with fail
      refine HM1.out.mono ?_
      rintro e w2 ⟨A2, n2, c2, rfl, hn2, ho2, hb2⟩
      obtain rfl : n2 = 4 := hn2.out
      clear hn2 HM1
      have HB2 : Hid (Below wc.heap.size wc w2) := Lib.hid (hb1.trans (hb2.mono hb1.size))
      have HR1 := Lib.hid (((Row.of_own ho1).below hb2).more hb2.size)
      have HR2 := Lib.hid (Row.of_own ho2)
      clear ho1 ho2
      have HB3 : Hid (Below w2.heap.size w2 (w2.alloc (.cells #[.slice A1 4 c1, .slice A2 4 c2, .slice A sz cap] 37))) := Lib.hid ((Below.refl _ _).alloc (Nat.le_refl _) _)
      have HJ : Hid (Calls Try.prog 38 #[.slice (some ⟨w2.heap.size, 0, none⟩) 3 3] (w2.alloc (.cells #[.slice A1 4 c1, .slice A2 4 c2, .slice A sz cap] 37)) (FreshBytes (w2.alloc (.cells #[.slice A1 4 c1, .slice A2 4 c2, .slice A sz cap] 37)).heap.size (wmsg gn id d) (w2.alloc (.cells #[.slice A1 4 c1, .slice A2 4 c2, .slice A sz cap] 37)))) := Lib.hid (by
        have hs3 := HB3.out.size
        refine join_boxW [⟨A1, 4, c1, CrcM.four gn⟩, ⟨A2, 4, c2, CrcM.four id⟩, ⟨A, sz, cap, d⟩] 3 rfl rfl (heap_alloc_new _ _) ?_ (by simp) ?_ ?_
        · intro r hr
          rcases List.mem_cons.1 hr with rfl | hr
          · exact (HR1.out.below HB3.out).more hs3
          · rcases List.mem_cons.1 hr with rfl | hr
            · exact (HR2.out.below HB3.out).more hs3
            · obtain rfl := List.mem_singleton.1 hr
              exact ((HLc.out.more HBc.out).below (HB2.out.trans (HB3.out.mono HB2.out.size))).more (Nat.le_trans HB2.out.size hs3)
        · simp [flat, CrcM.four]; have := HDL.out; omega
        · simp [flat, wmsg])
      go_wp2_with fail
      refine HJ.out.mono ?_
      rintro e w3 ⟨A3, n3, c3, rfl, hn3, ho3, hb3⟩
      clear HJ
      have HB4 : Hid (Below wc.heap.size wc w3) := Lib.hid ((HB2.out.trans (HB3.out.mono HB2.out.size)).trans (hb3.mono (Nat.le_trans HB2.out.size HB3.out.size)))
      have HN3 : Hid (n3 = sz + 8) := Lib.hid (by rw [hn3.out, wmsg_length, HDL.out])
      have HP3 := Lib.hid (r1put_any w3.heap.size n3 c3 A3 (wmsg gn id d) w3 (Row.of_own ho3) (by have := HN3.out; omega) (Nat.le_refl _))
      clear hn3 ho3 hb3 HR1 HR2 HB3 hb1 hb2
      go_wp2_with fail
      refine HP3.out.mono ?_
      rintro e w5 ⟨A5, n5, c5, rfl, hn5, ho5, hb5⟩
      clear HP3
      have HB5 : Hid (Below wc.heap.size wc w5) := Lib.hid (HB4.out.trans (hb5.mono HB4.out.size))
      obtain ⟨m5, hm5⟩ : ∃ m, sz + 12 = m := ⟨_, rfl⟩
      have hn5' : n5 = m5 := by rw [hn5.out, CrcM.put_length, wmsg_length, HDL.out, ← hm5]
      subst hn5'
      have HM5 := Lib.hid hm5
      have HR5 := Lib.hid (Row.of_own ho5)
      obtain ⟨g5, cc5, hv5, hg5, hl5⟩ := ho5.form (by omega)
      injection hv5 with e15 e25 e35
      subst e15 e35
      have HG5 : Hid (g5 ≠ gm ∧ g5 ≠ gB) := Lib.hid (by
        have := HFRc.out.size
        have := HB4.out.size
        have := HGM.out
        have := HGB.out
        exact ⟨by omega, by omega⟩)
      have HF5 := Lib.hid (HFc.out.below HB5.out)
      have HST := Lib.hid HOKc.out
      have HPR := Lib.hid (rprog_ok gm gB a0 w5.heap.size n5 c5 (some ⟨g5, 0, none⟩) (CrcM.put (wmsg gn id d)) f1 w5 HF5.out HR5.out (fun _ b o e => by injection e with e; injection e with e; subst e; exact HG5.out) (Nat.le_refl _) HDc.out (by have := HAL.out; omega) HOKc.out.1 (by have := HOKc.out.2.1; omega))
      have HRES0 : Hid (f1.prog a0 (wrec gn id d) = if (f1.prog a0 (CrcM.put (wmsg gn id d))).2 = 0 then (f1.prog a0 (CrcM.put (wmsg gn id d))).1.prog (a0 + n5) [0] else f1.prog a0 (CrcM.put (wmsg gn id d))) := Lib.hid (by
        unfold wrec
        rw [Fl.prog_append, CrcM.put_length, wmsg_length, HDL.out, ← HM5.out])
      have HD2 := Lib.hid (fun hh => (prog_down_same f1 a0 (CrcM.put (wmsg gn id d)) hh).trans HDc.out)
      have HOK2 := Lib.hid (HOKc.out.prog (CrcM.put (wmsg gn id d)) a0)
      have HPL : Hid ((CrcM.put (wmsg gn id d)).length = n5) := Lib.hid (by rw [CrcM.put_length, wmsg_length, HDL.out, ← HM5.out])
      rw [HPL.out] at HOK2
      obtain ⟨f2, r2, hE2⟩ : ∃ f2 r2, f1.prog a0 (CrcM.put (wmsg gn id d)) = (f2, r2) := ⟨_, _, rfl⟩
      rw [hE2] at HPR HRES0 HD2 HOK2
      have u0 := (HQ.out w5 HB5.out).1
      clear hE2 hn5 ho5 hm5 hg5 hl5 HPL hb5 HR5
      go_wp2_with fail
      refine HPR.out.mono ?_
      rintro e w6 ⟨rfl, hd6⟩
      dsimp only
      clear HPR u0 HB4
      have HFR6 : Hid (Frm w w6 (RF P gm gB)) := Lib.hid ((HFRc.out.trans (Frm.of_below (F := RF P gm gB) HB5.out) (fun _ _ h => h)).trans (frm_gr2 (P := P) hd6.out.2) (fun _ _ h => h))
      have HW6 : Hid (RWhAt P gr gm gB { x with ready := (qs : Int) } w6) := Lib.hid ((HWc.out.below HB5.out).keep (fun b hb hl => hd6.out.2.block b hl (fun e => HPM.out (by rw [← e]; exact hb)) (fun e => HPB.out (by rw [← e]; exact hb))) hd6.out.2.size)
      have HF6 := Lib.hid hd6.out.1
      clear hd6
      by_cases h2 : r2 = 0
      · subst h2
        have hn5i : (n5 : Int) ≤ 28 := by have := HM5.out; omega
        have hni1 : (a0 : Int) ≤ 3584 := by have := HAL.out; omega
        have u0 : w6.cell? ⟨gr, 0, none⟩ = some (.pointer (some ⟨gm, 0, none⟩)) := by
          obtain ⟨Aq, nq, cq, eq, hgq, -⟩   := _root_.id HW6.out
          exact (rwc6 hgq).1
        have HBZ : Hid (Below w6.heap.size w6 (w6.alloc (.cells #[.int .u8 0] 5))) := Lib.hid ((Below.refl _ _).alloc (Nat.le_refl _) _)
        have HPR2 := Lib.hid (fun ai (hai : ai = ((a0 + n5 : Nat) : Int)) => rprog_ai gm gB (a0 + n5) (w6.alloc (.cells #[.int .u8 0] 5)).heap.size 1 1 ai hai (some ⟨w6.heap.size, 0, none⟩) [0] f2 (w6.alloc (.cells #[.int .u8 0] 5)) (HF6.out.below HBZ.out) (row_boxW (heap_alloc_new _ _)) (fun _ b o e => by
          injection e with e
          injection e with e
          have h1 := HF6.out.ltm
          have h2 := HF6.out.ltB
          exact ⟨by omega, by omega⟩) (Nat.le_refl _) (HD2.out rfl) (by have := HAL.out; have := HM5.out; omega) HOK2.out.1 (by have := HOK2.out.2.1; have := HM5.out; omega))
        go_wp2_with fail
        refine (HPR2.out _ (by push_cast; omega)).mono ?_
        rintro e w7 ⟨rfl, hd7⟩
        dsimp only
        have HRES1 : Hid (f1.prog a0 (wrec gn id d) = f2.prog (a0 + n5) [0]) := Lib.hid (HRES0.out.trans (if_pos trivial))
        clear HPR2 u0 HRES0
        have HFR7 : Hid (Frm w w7 (RF P gm gB)) := Lib.hid ((HFR6.out.trans (Frm.of_below (F := RF P gm gB) HBZ.out) (fun _ _ h => h)).trans (frm_gr2 (P := P) hd7.out.2) (fun _ _ h => h))
        have HW7 : Hid (RWhAt P gr gm gB { x with ready := (qs : Int) } w7) := Lib.hid ((HW6.out.below HBZ.out).keep (fun b hb hl => hd7.out.2.block b hl (fun e => HPM.out (by rw [← e]; exact hb)) (fun e => HPB.out (by rw [← e]; exact hb))) hd7.out.2.size)
        have HF7 := Lib.hid hd7.out.1
        clear hd7 HBZ
        obtain ⟨f3, r3, hE3⟩ : ∃ f3 r3, f2.prog (a0 + n5) [0] = (f3, r3) := ⟨_, _, rfl⟩
        rw [hE3] at HRES1 HF7 ⊢
        clear hE3
        dsimp only
        by_cases h3 : r3 = 0
        · subst h3
          have HRES : Hid (R = (X1, f3, 0)) := Lib.hid (by rw [HRRc.out, HRES1.out]; exact if_pos (show (f3, (0 : Int)).2 = 0 from rfl))
          go_upto_region 20 with fail
          obtain ⟨wb, hwb⟩ : ∃ wb, wb = w7 := ⟨_, rfl⟩
          rw [← hwb] at HW7 HF7 HFR7 ⊢
          clear hwb
          have HF8 := HF7
          have HFB := HFR7
          obtain ⟨Av, nv, cv, es, hgw, hpw, -, -, hrw, hes⟩   := _root_.id HW7.out
          have HGW := Lib.hid hgw
          have HRW := Lib.hid hrw
          have HES := Lib.hid hes
          have HNV : Hid (nv ≤ 1000) := Lib.hid (by
            have e1 := hrw.2.2.1
            have e2 : es.length = x.L.length := by
              have : (es.map RRow.pair).length = es.length := by simp
              rw [← this, hes]
            have := HMANY.out
            omega)
          have hsb := HFB.out.size
          have LGW : Hid (gr < wb.heap.size) := HW7.out.lt
          have HGL : Hid (gr < wb.heap.size) := LGW
          have HVL : Hid (∀ g, (Value.slice Av nv cv).ownBlock = some g → g < wb.heap.size) := fun g hg => (hrw.1.lt g hg).2
          have HBL : Hid (w.heap.size ≤ wb.heap.size) := hsb
          have SFB : Hid (SF wb gr (.slice Av nv cv) wb) := ⟨Frm.refl _ _⟩
          have HLb : Hid (Row wb B A sz (bv d)) := Lib.hid (HL.out.frm (fun b o e _ => by rintro (h | h | h); exact (HA.out b o e).2.2 h; exact (HA.out b o e).1 h; exact (HA.out b o e).2.1 h) HFB.out hB)
          have HROW : Hid (∀ W : World, SF wb gr (.slice Av nv cv) W → Row W W.heap.size A sz (bv d)) := Lib.hid (fun W hS => (HLb.out.frm (fun b o e _ => by
            rintro (h | h)
            · exact (HA.out b o e).2.2 (by rw [h]; exact HPG.out)
            · exact (HA.out b o e).2.2 (hrw.2.1 b h).1) hS.fr (Nat.le_trans hB hsb)).more (Nat.le_trans hB (Nat.le_trans hsb hS.fr.size)))
          clear hgw hpw hrw hes HW7 HRES1 HF7 HFR7 hn5i hni1
          refine wp_region_noPanic ?_
          refine wp_region_held_drew (S := (fun W => SF wb gr (.slice Av nv cv) W)) (by kernel_rfl) (SFB.out.below (Below.refl _ _).drew) (fun hH0 => ?_)
          have hH0 : SF wb gr (.slice Av nv cv) wb.drew := hH0
          have HRWd := Lib.hid (HRW.out.below ((Below.refl wb.heap.size wb).drew))
          have HGWd := Lib.hid (show wb.drew.heap[gr]? = _ from HGW.out)
          have LGWd := Lib.hid (show gr < wb.drew.heap.size from LGW.out)
          generalize wb.drew = wd3000 at *
          refine wpAnyH_take (i := 0) (oi := { dst := some 95, op := Op.move (Operand.tmp 0), type := 34, pos := "ref.go:279", after := #[], guard := none }) (v := ?tkv3001) rfl (by kernel_rfl) (by kernel_rfl) (by kernel_rfl) (fun _ _ _ h => h) (Or.inl ⟨by rfl, ?tky3001⟩) hH0 ?tkr3001
          case tky3001 => (intro w' hSw; clear hSw; go_simp; try with_reducible rfl)
          try simp only [Act.put, List.setIfInBounds_toArray, List.set_cons_zero, List.set_cons_succ]
          refine wpAnyH_take (i := 1) (oi := { dst := some 96, op := Op.move (Operand.tmp 0), type := 34, pos := "ref.go:279", after := #[], guard := none }) (v := ?tkv3002) rfl (by kernel_rfl) (by kernel_rfl) (by kernel_rfl) (fun _ _ _ h => h) (Or.inl ⟨by rfl, ?tky3002⟩) hH0 ?tkr3002
          case tky3002 => (intro w' hSw; clear hSw; go_simp; try with_reducible rfl)
          try simp only [Act.put, List.setIfInBounds_toArray, List.set_cons_zero, List.set_cons_succ]
          refine wpAnyH_take (i := 2) (oi := { dst := some 97, op := Op.nilCheck (Operand.tmp 96), type := 0, pos := "ref.go:279", after := #[{ on := 1, ground := Ground.data }], guard := none }) (v := ?tkv3003) rfl (by kernel_rfl) (by kernel_rfl) (by kernel_rfl) (fun _ _ _ h => h) (Or.inl ⟨by rfl, ?tky3003⟩) hH0 ?tkr3003
          case tky3003 => (intro w' hSw; clear hSw; go_simp; try with_reducible rfl)
          try simp only [Act.put, List.setIfInBounds_toArray, List.set_cons_zero, List.set_cons_succ]
          refine wpAnyH_take (i := 3) (oi := { dst := some 98, op := Op.fieldAddr 47 (Operand.tmp 97) 3, type := 0, pos := "ref.go:279", after := #[{ on := 2, ground := Ground.data }], guard := none }) (v := ?tkv3004) rfl (by kernel_rfl) (by kernel_rfl) (by kernel_rfl) (fun _ _ _ h => h) (Or.inl ⟨by rfl, ?tky3004⟩) hH0 ?tkr3004
          case tky3004 => (intro w' hSw; clear hSw; go_simp; try with_reducible rfl)
          try simp only [Act.put, List.setIfInBounds_toArray, List.set_cons_zero, List.set_cons_succ]
          refine wpAnyH_take (i := 5) (oi := { dst := some 100, op := Op.move (Operand.tmp 1), type := 22, pos := "ref.go:279", after := #[], guard := none }) (v := ?tkv3005) rfl (by kernel_rfl) (by kernel_rfl) (by kernel_rfl) (fun _ _ _ h => h) (Or.inl ⟨by rfl, ?tky3005⟩) hH0 ?tkr3005
          case tky3005 => (intro w' hSw; clear hSw; go_simp; try with_reducible rfl)
          try simp only [Act.put, List.setIfInBounds_toArray, List.set_cons_zero, List.set_cons_succ]
          refine wpAnyH_take (i := 6) (oi := { dst := some 101, op := Op.move (Operand.tmp 2), type := 37, pos := "ref.go:279", after := #[], guard := none }) (v := ?tkv3006) rfl (by kernel_rfl) (by kernel_rfl) (by kernel_rfl) (fun _ _ _ h => h) (Or.inl ⟨by rfl, ?tky3006⟩) hH0 ?tkr3006
          case tky3006 => (intro w' hSw; clear hSw; go_simp; try with_reducible rfl)
          try simp only [Act.put, List.setIfInBounds_toArray, List.set_cons_zero, List.set_cons_succ]
          refine wpAnyH_ready (rs := [4, 7]) (by kernel_rfl) (by simp) ?_
          refine AllReadyH.cons (o := { dst := some 99, op := Op.load 44 (Operand.tmp 98), type := 44, pos := "ref.go:279", after := #[{ on := 3, ground := Ground.data }], guard := none }) rfl (fun K hK => ?_) (AllReadyH.cons (o := { dst := some 102, op := Op.buildSlice 90 1 #[(0, Operand.tmp 101)], type := 90, pos := "ref.go:279", after := #[{ on := 6, ground := Ground.data }], guard := none }) rfl (fun K hK => ?_) AllReadyH.nil)
          · have hc3007 := (rwc6 HGWd.out).2.2.2.1
            go_simp
            clear hc3007
            have hS3007 : SF wb gr (.slice Av nv cv) wd3000 := hH0
            refine hK.out _ _ hS3007 (fun hH3007 => ?_)
            have hH3007 : SF wb gr (.slice Av nv cv) wd3000 := hH3007
            clear hK K hS3007
            try simp only [Act.put, List.setIfInBounds_toArray, List.set_cons_zero, List.set_cons_succ]
            refine wpAnyH_ready (rs := [7]) (by kernel_rfl) (by simp) ?_
            refine AllReadyH.cons (o := { dst := some 102, op := Op.buildSlice 90 1 #[(0, Operand.tmp 101)], type := 90, pos := "ref.go:279", after := #[{ on := 6, ground := Ground.data }], guard := none }) rfl (fun K hK => ?_) AllReadyH.nil
            go_simp
            have hb3008 : Below wd3000.heap.size wd3000 (wd3000.alloc (.cells #[.slice A sz cap] 37)) := (Below.refl _ _).alloc (Nat.le_refl _) _
            have AX3008 : Hid ((wd3000.alloc (.cells #[.slice A sz cap] 37)).heap[wd3000.heap.size]? = some (.cells #[.slice A sz cap] 37 (0, 0))) := Lib.hid (heap_alloc_new _ _)
            have AL3008 : Hid (wd3000.heap.size < (wd3000.alloc (.cells #[.slice A sz cap] 37)).heap.size) := Lib.hid (by simp)
            generalize (wd3000.alloc (.cells #[.slice A sz cap] 37)) = wn3008 at *
            have HRWd_3008 := Lib.hid (HRWd.out.below hb3008)
            have HGWd_3008 := Lib.hid ((hb3008.block gr LGWd.out).trans HGWd.out)
            have LGWd_3008 := Lib.hid (Nat.lt_of_lt_of_le LGWd.out hb3008.size)
            have hS3008 : SF wb gr (.slice Av nv cv) wn3008 := ((hH3007).below hb3008)
            refine hK.out _ _ hS3008 (fun hH3008 => ?_)
            have hH3008 : SF wb gr (.slice Av nv cv) wn3008 := hH3008
            clear hK K hS3008
            try simp only [Act.put, List.setIfInBounds_toArray, List.set_cons_zero, List.set_cons_succ]
            refine wpAnyH_ready (rs := [8]) (by kernel_rfl) (by simp) ?_
            refine AllReadyH.cons (o := { dst := some 103, op := Op.call { callee := Callee.value (Operand.func 38), args := #[Operand.tmp 102], argTypes := #[90] }, type := 37, pos := "ref.go:279", after := #[{ on := 7, ground := Ground.data }], guard := none }) rfl (fun K hK => ?_) AllReadyH.nil
            go_simp
            refine (join_boxW [⟨A, sz, cap, d⟩] 1 rfl rfl AX3008.out (by intro r hr; obtain rfl := List.mem_singleton.1 hr; exact HROW.out _ (hH3008)) (by simp) (by show ([⟨A, sz, cap, d⟩].flatMap BRow.l).length ≤ _; simp; have := HDL.out; omega) (l := d) (by simp [flat])).mono ?_
            rintro e' wn3009 ⟨Ac3009, nc3009, rc, rfl, hnc3009, ho3009, hb3009⟩
            obtain rfl : sz = nc3009 := (hnc3009.out.trans HDL.out).symm
            obtain ⟨rg, rcc3009, hv3009, hg3009, hl3009⟩ := ho3009.form (by have := HS1.out; omega)
            injection hv3009 with e13009 e23009 e33009
            subst e13009 e33009
            have HNW3009 : Hid (RNew w gr (.slice Av nv cv) rg 0 sz d wn3009) := Lib.hid (rnew_of HVL.out HGL.out HBL.out (hH3008).fr.size hg3009 hl3009 (Row.of_own ho3009))
            clear ho3009 hnc3009
            go_simp
            have HRWd_3009 := Lib.hid (HRWd_3008.out.below hb3009)
            have HGWd_3009 := Lib.hid ((hb3009.block gr LGWd_3008.out).trans HGWd_3008.out)
            have LGWd_3009 := Lib.hid (Nat.lt_of_lt_of_le LGWd_3008.out hb3009.size)
            have AX3008_3009 := Lib.hid ((hb3009.block wd3000.heap.size AL3008.out).trans AX3008.out)
            have AL3008_3009 := Lib.hid (Nat.lt_of_lt_of_le AL3008.out hb3009.size)
            have hS3009 : SF wb gr (.slice Av nv cv) wn3009 := ((hH3008).below hb3009)
            refine hK.out _ _ hS3009 (fun hH3009 => ?_)
            have hH3009 : SF wb gr (.slice Av nv cv) wn3009 := hH3009
            clear hK K hS3009
            try simp only [Act.put, List.setIfInBounds_toArray, List.set_cons_zero, List.set_cons_succ]
            refine wpAnyH_take (i := 9) (oi := { dst := some 104, op := Op.build 77 #[(0, Operand.tmp 100), (1, Operand.tmp 103)], type := 77, pos := "ref.go:279", after := #[{ on := 5, ground := Ground.data }, { on := 8, ground := Ground.data }], guard := none }) (v := ?tkv3010) rfl (by kernel_rfl) (by kernel_rfl) (by kernel_rfl) (fun _ _ _ h => h) (Or.inl ⟨by rfl, ?tky3010⟩) hH3009 ?tkr3010
            case tky3010 => (intro w' hSw; clear hSw; go_simp; try with_reducible rfl)
            try simp only [Act.put, List.setIfInBounds_toArray, List.set_cons_zero, List.set_cons_succ]
            refine wpAnyH_ready (rs := [10]) (by kernel_rfl) (by simp) ?_
            refine AllReadyH.cons (o := { dst := some 105, op := Op.buildSlice 44 1 #[(0, Operand.tmp 104)], type := 44, pos := "ref.go:279", after := #[{ on := 9, ground := Ground.data }], guard := none }) rfl (fun K hK => ?_) AllReadyH.nil
            go_simp
            have hb3011 : Below wn3009.heap.size wn3009 (wn3009.alloc (.cells #[.int .u32 (id : Int), .slice (some ⟨rg, 0, none⟩) sz rc] 77)) := (Below.refl _ _).alloc (Nat.le_refl _) _
            have AX3011 : Hid ((wn3009.alloc (.cells #[.int .u32 (id : Int), .slice (some ⟨rg, 0, none⟩) sz rc] 77)).heap[wn3009.heap.size]? = some (.cells #[.int .u32 (id : Int), .slice (some ⟨rg, 0, none⟩) sz rc] 77 (0, 0))) := Lib.hid (heap_alloc_new _ _)
            have AL3011 : Hid (wn3009.heap.size < (wn3009.alloc (.cells #[.int .u32 (id : Int), .slice (some ⟨rg, 0, none⟩) sz rc] 77)).heap.size) := Lib.hid (by simp)
            generalize (wn3009.alloc (.cells #[.int .u32 (id : Int), .slice (some ⟨rg, 0, none⟩) sz rc] 77)) = wn3011 at *
            have HRWd_3011 := Lib.hid (HRWd_3009.out.below hb3011)
            have HGWd_3011 := Lib.hid ((hb3011.block gr LGWd_3009.out).trans HGWd_3009.out)
            have LGWd_3011 := Lib.hid (Nat.lt_of_lt_of_le LGWd_3009.out hb3011.size)
            have AX3008_3011 := Lib.hid ((hb3011.block wd3000.heap.size AL3008_3009.out).trans AX3008_3009.out)
            have AL3008_3011 := Lib.hid (Nat.lt_of_lt_of_le AL3008_3009.out hb3011.size)
            have HNW3009_3011 := Lib.hid (HNW3009.out.below hb3011)
            have hS3011 : SF wb gr (.slice Av nv cv) wn3011 := ((hH3009).below hb3011)
            refine hK.out _ _ hS3011 (fun hH3011 => ?_)
            have hH3011 : SF wb gr (.slice Av nv cv) wn3011 := hH3011
            clear hK K hS3011
            try simp only [Act.put, List.setIfInBounds_toArray, List.set_cons_zero, List.set_cons_succ]
            refine wpAnyH_ready (rs := [11]) (by kernel_rfl) (by simp) ?_
            refine AllReadyH.cons (o := { dst := some 106, op := Op.call { callee := Callee.builtin Builtin.append, args := #[Operand.tmp 99, Operand.tmp 105], argTypes := #[44, 44] }, type := 44, pos := "ref.go:279", after := #[{ on := 4, ground := Ground.data }, { on := 10, ground := Ground.data }, { on := 8, ground := Ground.chain }], guard := none }) rfl (fun K hK => ?_) AllReadyH.nil
            rw [if_pos (by rfl)]
            refine wp_app2 (.tmp 99) (.tmp 105) 44 rfl 0 77 i0 _ 32 Try.underlying44 hi hz0 hz1 hz2 rfl _ nv _ rfl HRWd_3011.out.1 _ 1 _ _ 77 rfl AX3011.out rfl rfl (by have := HNV.out; unfold maxLen; omega) (by have := HNV.out; omega) (Nat.zero_le _) ?_
            intro v4 w4 hown4 hg4 hat4
            obtain ⟨A4, c4, rfl⟩ := own2_form hown4
            have HAPP := Lib.hid (rwh_grow (h := { x with ready := (qs : Int) }) HGWd_3011.out HPG.out HPM.out HPB.out HGM.out HGB.out (Nat.le_trans HBL.out (hH3011).fr.size) HRWd_3011.out HES.out HNW3009_3011.out hown4 hg4 hat4)
            have hS3012 : SF wb gr (.slice Av nv cv) w4 := ((hH3011).app hg4)
            refine hK.out _ _ hS3012 (fun hH3012 => ?_)
            have hH3012 : SF wb gr (.slice Av nv cv) w4 := hH3012
            clear hK K hS3012
            try simp only [Act.put, List.setIfInBounds_toArray, List.set_cons_zero, List.set_cons_succ]
            refine wpAnyH_take (i := 12) (oi := { dst := some 107, op := Op.nilCheck (Operand.tmp 95), type := 0, pos := "ref.go:279", after := #[{ on := 0, ground := Ground.data }, { on := 0, ground := Ground.phase }, { on := 1, ground := Ground.phase }, { on := 2, ground := Ground.phase }, { on := 3, ground := Ground.phase }, { on := 4, ground := Ground.phase }, { on := 5, ground := Ground.phase }, { on := 6, ground := Ground.phase }, { on := 7, ground := Ground.phase }, { on := 8, ground := Ground.phase }, { on := 9, ground := Ground.phase }, { on := 10, ground := Ground.phase }, { on := 11, ground := Ground.phase }], guard := none }) (v := ?tkv3013) rfl (by kernel_rfl) (by kernel_rfl) (by kernel_rfl) (fun _ _ _ h => h) (Or.inl ⟨by rfl, ?tky3013⟩) hH3012 ?tkr3013
            case tky3013 => (intro w' hSw; clear hSw; go_simp; try with_reducible rfl)
            try simp only [Act.put, List.setIfInBounds_toArray, List.set_cons_zero, List.set_cons_succ]
            refine wpAnyH_take (i := 13) (oi := { dst := some 108, op := Op.fieldAddr 47 (Operand.tmp 107) 3, type := 0, pos := "ref.go:279", after := #[{ on := 12, ground := Ground.data }, { on := 0, ground := Ground.phase }, { on := 1, ground := Ground.phase }, { on := 2, ground := Ground.phase }, { on := 3, ground := Ground.phase }, { on := 4, ground := Ground.phase }, { on := 5, ground := Ground.phase }, { on := 6, ground := Ground.phase }, { on := 7, ground := Ground.phase }, { on := 8, ground := Ground.phase }, { on := 9, ground := Ground.phase }, { on := 10, ground := Ground.phase }, { on := 11, ground := Ground.phase }], guard := none }) (v := ?tkv3014) rfl (by kernel_rfl) (by kernel_rfl) (by kernel_rfl) (fun _ _ _ h => h) (Or.inl ⟨by rfl, ?tky3014⟩) hH3012 ?tkr3014
            case tky3014 => (intro w' hSw; clear hSw; go_simp; try with_reducible rfl)
            try simp only [Act.put, List.setIfInBounds_toArray, List.set_cons_zero, List.set_cons_succ]
            refine wpAnyH_ready (rs := [14]) (by kernel_rfl) (by simp) ?_
            refine AllReadyH.cons (o := { dst := none, op := Op.store 44 (Operand.tmp 108) (Operand.tmp 106), type := 0, pos := "ref.go:279", after := #[{ on := 13, ground := Ground.data }, { on := 11, ground := Ground.data }, { on := 11, ground := Ground.chain }, { on := 0, ground := Ground.phase }, { on := 1, ground := Ground.phase }, { on := 2, ground := Ground.phase }, { on := 3, ground := Ground.phase }, { on := 4, ground := Ground.phase }, { on := 5, ground := Ground.phase }, { on := 6, ground := Ground.phase }, { on := 7, ground := Ground.phase }, { on := 8, ground := Ground.phase }, { on := 9, ground := Ground.phase }, { on := 10, ground := Ground.phase }, { on := 11, ground := Ground.phase }], guard := none }) rfl (fun K hK => ?_) AllReadyH.nil
            have q3015 := rwc6 HAPP.out.1
            have y3015 := q3015.2.2.2.1
            have z3015 := q3015.2.2.2.2.2.2.1
            go_simp
            clear q3015 y3015 z3015
            have hS3015 : SF wb gr (.slice Av nv cv) (w4.setCell ⟨gr, 3, none⟩ (.slice A4 (nv + 1) c4)) := ((hH3012).set 3 (.slice A4 (nv + 1) c4))
            refine hK.out _ _ hS3015 (fun hH3015 => ?_)
            have hH3015 : SF wb gr (.slice Av nv cv) (w4.setCell ⟨gr, 3, none⟩ (.slice A4 (nv + 1) c4)) := hH3015
            clear hK K hS3015
            refine wpAnyH_done (by kernel_rfl) ?_ _
            refine NoPanic.normal ?_
            have HSE := Lib.hid (hH3015)
            have HW9 := HAPP.out.2
            have HFR9 : Hid (Frm w (w4.setCell ⟨gr, 3, none⟩ (.slice A4 (nv + 1) c4)) (RF P gm gB)) := HFB.out.trans HSE.out.fr (fun b hb h => by
              rcases h with h | h
              · rw [h]; exact .inl HPG.out
              · exact .inl (HRW.out.2.1 b h).1)
            have HF9 : Hid (RfAt (w4.setCell ⟨gr, 3, none⟩ (.slice A4 (nv + 1) c4)) gm gB f3) := Lib.hid (HF8.out.keep (HSE.out.fr.block gm HF8.out.ltm (by
                rintro (h | h)
                · exact HPM.out (by rw [h]; exact HPG.out)
                · exact HPM.out (HRW.out.2.1 gm h).1)) (HSE.out.fr.block gB HF8.out.ltB (by
                rintro (h | h)
                · exact HPB.out (by rw [h]; exact HPG.out)
                · exact HPB.out (HRW.out.2.1 gB h).1)))
            have hz9 := HAPP.out.1
            obtain ⟨W5, hW5⟩ : ∃ W5, w4.setCell ⟨gr, 3, none⟩ (.slice A4 (nv + 1) c4) = W5 := ⟨_, rfl⟩
            have hs5 : W5.heap.size = w4.heap.size := by rw [← hW5]; simp [World.setCell]
            rw [hW5] at HW9 HFR9 HF9 ⊢
            have HWc9 := HW9
            obtain ⟨Ay, ny, cy, ey, hy, -, -, -, -⟩ := HWc9
            have q5 := rwc6 hy
            have y5 := q5.2.2.2.2.2.1
            have z5 := q5.2.2.2.2.2.2.2.2
            have y5' : W5.cell? ⟨gr, 5, none⟩ = some (.int .i64 (nn : Int)) := by rw [y5, ← HNN.out]
            have HW10 := Lib.hid (HW9.next (nn + 1) ((nn : Int) + 1) (by push_cast; rfl))
            have HE5 := Lib.hid hs5
            clear hW5 hy q5 y5 HSE HAPP hz9 HW9 hs5
            go_wp2_with fail
            go_ret
            refine ⟨?_, ?_, ?_, ?_⟩
            · rw [HRES.out]; rfl
            · rw [HRES.out, ← HX1.out]
              have e : (W5.setCell ⟨gr, 5, none⟩ (.int .i64 ((nn : Int) + 1))).heap.size = w4.heap.size := by rw [← HE5.out]; simp [World.setCell]
              unfold Pn
              rw [e]
              exact HW10
            · rw [HRES.out]
              exact Lib.hid (HF9.out.keep (heap_setCell_other W5 ⟨gr, 5, none⟩ gm _ (fun e => HPM.out (by rw [e]; exact HPG.out))) (heap_setCell_other W5 ⟨gr, 5, none⟩ gB _ (fun e => HPB.out (by rw [e]; exact HPG.out))))
            · exact HFR9.out.trans (Frm.of_grown (F := fun b => b = gr) (grown_set W5 gr 5 _) (fun g h _ => by injection h with h; exact h.symm)) (fun b _ h => by rw [h]; exact .inl HPG.out)
          · go_simp
            have hb3016 : Below wd3000.heap.size wd3000 (wd3000.alloc (.cells #[.slice A sz cap] 37)) := (Below.refl _ _).alloc (Nat.le_refl _) _
            have AX3016 : Hid ((wd3000.alloc (.cells #[.slice A sz cap] 37)).heap[wd3000.heap.size]? = some (.cells #[.slice A sz cap] 37 (0, 0))) := Lib.hid (heap_alloc_new _ _)
            have AL3016 : Hid (wd3000.heap.size < (wd3000.alloc (.cells #[.slice A sz cap] 37)).heap.size) := Lib.hid (by simp)
            generalize (wd3000.alloc (.cells #[.slice A sz cap] 37)) = wn3016 at *
            have HRWd_3016 := Lib.hid (HRWd.out.below hb3016)
            have HGWd_3016 := Lib.hid ((hb3016.block gr LGWd.out).trans HGWd.out)
            have LGWd_3016 := Lib.hid (Nat.lt_of_lt_of_le LGWd.out hb3016.size)
            have hS3016 : SF wb gr (.slice Av nv cv) wn3016 := ((hH0).below hb3016)
            refine hK.out _ _ hS3016 (fun hH3016 => ?_)
            have hH3016 : SF wb gr (.slice Av nv cv) wn3016 := hH3016
            clear hK K hS3016
            try simp only [Act.put, List.setIfInBounds_toArray, List.set_cons_zero, List.set_cons_succ]
            refine wpAnyH_ready (rs := [4, 8]) (by kernel_rfl) (by simp) ?_
            refine AllReadyH.cons (o := { dst := some 99, op := Op.load 44 (Operand.tmp 98), type := 44, pos := "ref.go:279", after := #[{ on := 3, ground := Ground.data }], guard := none }) rfl (fun K hK => ?_) (AllReadyH.cons (o := { dst := some 103, op := Op.call { callee := Callee.value (Operand.func 38), args := #[Operand.tmp 102], argTypes := #[90] }, type := 37, pos := "ref.go:279", after := #[{ on := 7, ground := Ground.data }], guard := none }) rfl (fun K hK => ?_) AllReadyH.nil)
            · have hc3017 := (rwc6 HGWd_3016.out).2.2.2.1
              go_simp
              clear hc3017
              have hS3017 : SF wb gr (.slice Av nv cv) wn3016 := hH3016
              refine hK.out _ _ hS3017 (fun hH3017 => ?_)
              have hH3017 : SF wb gr (.slice Av nv cv) wn3016 := hH3017
              clear hK K hS3017
              try simp only [Act.put, List.setIfInBounds_toArray, List.set_cons_zero, List.set_cons_succ]
              refine wpAnyH_ready (rs := [8]) (by kernel_rfl) (by simp) ?_
              refine AllReadyH.cons (o := { dst := some 103, op := Op.call { callee := Callee.value (Operand.func 38), args := #[Operand.tmp 102], argTypes := #[90] }, type := 37, pos := "ref.go:279", after := #[{ on := 7, ground := Ground.data }], guard := none }) rfl (fun K hK => ?_) AllReadyH.nil
              go_simp
              refine (join_boxW [⟨A, sz, cap, d⟩] 1 rfl rfl AX3016.out (by intro r hr; obtain rfl := List.mem_singleton.1 hr; exact HROW.out _ (hH3017)) (by simp) (by show ([⟨A, sz, cap, d⟩].flatMap BRow.l).length ≤ _; simp; have := HDL.out; omega) (l := d) (by simp [flat])).mono ?_
              rintro e' wn3018 ⟨Ac3018, nc3018, rc, rfl, hnc3018, ho3018, hb3018⟩
              obtain rfl : sz = nc3018 := (hnc3018.out.trans HDL.out).symm
              obtain ⟨rg, rcc3018, hv3018, hg3018, hl3018⟩ := ho3018.form (by have := HS1.out; omega)
              injection hv3018 with e13018 e23018 e33018
              subst e13018 e33018
              have HNW3018 : Hid (RNew w gr (.slice Av nv cv) rg 0 sz d wn3018) := Lib.hid (rnew_of HVL.out HGL.out HBL.out (hH3017).fr.size hg3018 hl3018 (Row.of_own ho3018))
              clear ho3018 hnc3018
              go_simp
              have HRWd_3018 := Lib.hid (HRWd_3016.out.below hb3018)
              have HGWd_3018 := Lib.hid ((hb3018.block gr LGWd_3016.out).trans HGWd_3016.out)
              have LGWd_3018 := Lib.hid (Nat.lt_of_lt_of_le LGWd_3016.out hb3018.size)
              have AX3016_3018 := Lib.hid ((hb3018.block wd3000.heap.size AL3016.out).trans AX3016.out)
              have AL3016_3018 := Lib.hid (Nat.lt_of_lt_of_le AL3016.out hb3018.size)
              have hS3018 : SF wb gr (.slice Av nv cv) wn3018 := ((hH3017).below hb3018)
              refine hK.out _ _ hS3018 (fun hH3018 => ?_)
              have hH3018 : SF wb gr (.slice Av nv cv) wn3018 := hH3018
              clear hK K hS3018
              try simp only [Act.put, List.setIfInBounds_toArray, List.set_cons_zero, List.set_cons_succ]
              refine wpAnyH_take (i := 9) (oi := { dst := some 104, op := Op.build 77 #[(0, Operand.tmp 100), (1, Operand.tmp 103)], type := 77, pos := "ref.go:279", after := #[{ on := 5, ground := Ground.data }, { on := 8, ground := Ground.data }], guard := none }) (v := ?tkv3019) rfl (by kernel_rfl) (by kernel_rfl) (by kernel_rfl) (fun _ _ _ h => h) (Or.inl ⟨by rfl, ?tky3019⟩) hH3018 ?tkr3019
              case tky3019 => (intro w' hSw; clear hSw; go_simp; try with_reducible rfl)
              try simp only [Act.put, List.setIfInBounds_toArray, List.set_cons_zero, List.set_cons_succ]
              refine wpAnyH_ready (rs := [10]) (by kernel_rfl) (by simp) ?_
              refine AllReadyH.cons (o := { dst := some 105, op := Op.buildSlice 44 1 #[(0, Operand.tmp 104)], type := 44, pos := "ref.go:279", after := #[{ on := 9, ground := Ground.data }], guard := none }) rfl (fun K hK => ?_) AllReadyH.nil
              go_simp
              have hb3020 : Below wn3018.heap.size wn3018 (wn3018.alloc (.cells #[.int .u32 (id : Int), .slice (some ⟨rg, 0, none⟩) sz rc] 77)) := (Below.refl _ _).alloc (Nat.le_refl _) _
              have AX3020 : Hid ((wn3018.alloc (.cells #[.int .u32 (id : Int), .slice (some ⟨rg, 0, none⟩) sz rc] 77)).heap[wn3018.heap.size]? = some (.cells #[.int .u32 (id : Int), .slice (some ⟨rg, 0, none⟩) sz rc] 77 (0, 0))) := Lib.hid (heap_alloc_new _ _)
              have AL3020 : Hid (wn3018.heap.size < (wn3018.alloc (.cells #[.int .u32 (id : Int), .slice (some ⟨rg, 0, none⟩) sz rc] 77)).heap.size) := Lib.hid (by simp)
              generalize (wn3018.alloc (.cells #[.int .u32 (id : Int), .slice (some ⟨rg, 0, none⟩) sz rc] 77)) = wn3020 at *
              have HRWd_3020 := Lib.hid (HRWd_3018.out.below hb3020)
              have HGWd_3020 := Lib.hid ((hb3020.block gr LGWd_3018.out).trans HGWd_3018.out)
              have LGWd_3020 := Lib.hid (Nat.lt_of_lt_of_le LGWd_3018.out hb3020.size)
              have AX3016_3020 := Lib.hid ((hb3020.block wd3000.heap.size AL3016_3018.out).trans AX3016_3018.out)
              have AL3016_3020 := Lib.hid (Nat.lt_of_lt_of_le AL3016_3018.out hb3020.size)
              have HNW3018_3020 := Lib.hid (HNW3018.out.below hb3020)
              have hS3020 : SF wb gr (.slice Av nv cv) wn3020 := ((hH3018).below hb3020)
              refine hK.out _ _ hS3020 (fun hH3020 => ?_)
              have hH3020 : SF wb gr (.slice Av nv cv) wn3020 := hH3020
              clear hK K hS3020
              try simp only [Act.put, List.setIfInBounds_toArray, List.set_cons_zero, List.set_cons_succ]
              refine wpAnyH_ready (rs := [11]) (by kernel_rfl) (by simp) ?_
              refine AllReadyH.cons (o := { dst := some 106, op := Op.call { callee := Callee.builtin Builtin.append, args := #[Operand.tmp 99, Operand.tmp 105], argTypes := #[44, 44] }, type := 44, pos := "ref.go:279", after := #[{ on := 4, ground := Ground.data }, { on := 10, ground := Ground.data }, { on := 8, ground := Ground.chain }], guard := none }) rfl (fun K hK => ?_) AllReadyH.nil
              rw [if_pos (by rfl)]
              refine wp_app2 (.tmp 99) (.tmp 105) 44 rfl 0 77 i0 _ 32 Try.underlying44 hi hz0 hz1 hz2 rfl _ nv _ rfl HRWd_3020.out.1 _ 1 _ _ 77 rfl AX3020.out rfl rfl (by have := HNV.out; unfold maxLen; omega) (by have := HNV.out; omega) (Nat.zero_le _) ?_
              intro v4 w4 hown4 hg4 hat4
              obtain ⟨A4, c4, rfl⟩ := own2_form hown4
              have HAPP := Lib.hid (rwh_grow (h := { x with ready := (qs : Int) }) HGWd_3020.out HPG.out HPM.out HPB.out HGM.out HGB.out (Nat.le_trans HBL.out (hH3020).fr.size) HRWd_3020.out HES.out HNW3018_3020.out hown4 hg4 hat4)
              have hS3021 : SF wb gr (.slice Av nv cv) w4 := ((hH3020).app hg4)
              refine hK.out _ _ hS3021 (fun hH3021 => ?_)
              have hH3021 : SF wb gr (.slice Av nv cv) w4 := hH3021
              clear hK K hS3021
              try simp only [Act.put, List.setIfInBounds_toArray, List.set_cons_zero, List.set_cons_succ]
              refine wpAnyH_take (i := 12) (oi := { dst := some 107, op := Op.nilCheck (Operand.tmp 95), type := 0, pos := "ref.go:279", after := #[{ on := 0, ground := Ground.data }, { on := 0, ground := Ground.phase }, { on := 1, ground := Ground.phase }, { on := 2, ground := Ground.phase }, { on := 3, ground := Ground.phase }, { on := 4, ground := Ground.phase }, { on := 5, ground := Ground.phase }, { on := 6, ground := Ground.phase }, { on := 7, ground := Ground.phase }, { on := 8, ground := Ground.phase }, { on := 9, ground := Ground.phase }, { on := 10, ground := Ground.phase }, { on := 11, ground := Ground.phase }], guard := none }) (v := ?tkv3022) rfl (by kernel_rfl) (by kernel_rfl) (by kernel_rfl) (fun _ _ _ h => h) (Or.inl ⟨by rfl, ?tky3022⟩) hH3021 ?tkr3022
              case tky3022 => (intro w' hSw; clear hSw; go_simp; try with_reducible rfl)
              try simp only [Act.put, List.setIfInBounds_toArray, List.set_cons_zero, List.set_cons_succ]
              refine wpAnyH_take (i := 13) (oi := { dst := some 108, op := Op.fieldAddr 47 (Operand.tmp 107) 3, type := 0, pos := "ref.go:279", after := #[{ on := 12, ground := Ground.data }, { on := 0, ground := Ground.phase }, { on := 1, ground := Ground.phase }, { on := 2, ground := Ground.phase }, { on := 3, ground := Ground.phase }, { on := 4, ground := Ground.phase }, { on := 5, ground := Ground.phase }, { on := 6, ground := Ground.phase }, { on := 7, ground := Ground.phase }, { on := 8, ground := Ground.phase }, { on := 9, ground := Ground.phase }, { on := 10, ground := Ground.phase }, { on := 11, ground := Ground.phase }], guard := none }) (v := ?tkv3023) rfl (by kernel_rfl) (by kernel_rfl) (by kernel_rfl) (fun _ _ _ h => h) (Or.inl ⟨by rfl, ?tky3023⟩) hH3021 ?tkr3023
              case tky3023 => (intro w' hSw; clear hSw; go_simp; try with_reducible rfl)
              try simp only [Act.put, List.setIfInBounds_toArray, List.set_cons_zero, List.set_cons_succ]
              refine wpAnyH_ready (rs := [14]) (by kernel_rfl) (by simp) ?_
              refine AllReadyH.cons (o := { dst := none, op := Op.store 44 (Operand.tmp 108) (Operand.tmp 106), type := 0, pos := "ref.go:279", after := #[{ on := 13, ground := Ground.data }, { on := 11, ground := Ground.data }, { on := 11, ground := Ground.chain }, { on := 0, ground := Ground.phase }, { on := 1, ground := Ground.phase }, { on := 2, ground := Ground.phase }, { on := 3, ground := Ground.phase }, { on := 4, ground := Ground.phase }, { on := 5, ground := Ground.phase }, { on := 6, ground := Ground.phase }, { on := 7, ground := Ground.phase }, { on := 8, ground := Ground.phase }, { on := 9, ground := Ground.phase }, { on := 10, ground := Ground.phase }, { on := 11, ground := Ground.phase }], guard := none }) rfl (fun K hK => ?_) AllReadyH.nil
              have q3024 := rwc6 HAPP.out.1
              have y3024 := q3024.2.2.2.1
              have z3024 := q3024.2.2.2.2.2.2.1
              go_simp
              clear q3024 y3024 z3024
              have hS3024 : SF wb gr (.slice Av nv cv) (w4.setCell ⟨gr, 3, none⟩ (.slice A4 (nv + 1) c4)) := ((hH3021).set 3 (.slice A4 (nv + 1) c4))
              refine hK.out _ _ hS3024 (fun hH3024 => ?_)
              have hH3024 : SF wb gr (.slice Av nv cv) (w4.setCell ⟨gr, 3, none⟩ (.slice A4 (nv + 1) c4)) := hH3024
              clear hK K hS3024
              refine wpAnyH_done (by kernel_rfl) ?_ _
              refine NoPanic.normal ?_
              have HSE := Lib.hid (hH3024)
              have HW9 := HAPP.out.2
              have HFR9 : Hid (Frm w (w4.setCell ⟨gr, 3, none⟩ (.slice A4 (nv + 1) c4)) (RF P gm gB)) := HFB.out.trans HSE.out.fr (fun b hb h => by
                rcases h with h | h
                · rw [h]; exact .inl HPG.out
                · exact .inl (HRW.out.2.1 b h).1)
              have HF9 : Hid (RfAt (w4.setCell ⟨gr, 3, none⟩ (.slice A4 (nv + 1) c4)) gm gB f3) := Lib.hid (HF8.out.keep (HSE.out.fr.block gm HF8.out.ltm (by
                  rintro (h | h)
                  · exact HPM.out (by rw [h]; exact HPG.out)
                  · exact HPM.out (HRW.out.2.1 gm h).1)) (HSE.out.fr.block gB HF8.out.ltB (by
                  rintro (h | h)
                  · exact HPB.out (by rw [h]; exact HPG.out)
                  · exact HPB.out (HRW.out.2.1 gB h).1)))
              have hz9 := HAPP.out.1
              obtain ⟨W5, hW5⟩ : ∃ W5, w4.setCell ⟨gr, 3, none⟩ (.slice A4 (nv + 1) c4) = W5 := ⟨_, rfl⟩
              have hs5 : W5.heap.size = w4.heap.size := by rw [← hW5]; simp [World.setCell]
              rw [hW5] at HW9 HFR9 HF9 ⊢
              have HWc9 := HW9
              obtain ⟨Ay, ny, cy, ey, hy, -, -, -, -⟩ := HWc9
              have q5 := rwc6 hy
              have y5 := q5.2.2.2.2.2.1
              have z5 := q5.2.2.2.2.2.2.2.2
              have y5' : W5.cell? ⟨gr, 5, none⟩ = some (.int .i64 (nn : Int)) := by rw [y5, ← HNN.out]
              have HW10 := Lib.hid (HW9.next (nn + 1) ((nn : Int) + 1) (by push_cast; rfl))
              have HE5 := Lib.hid hs5
              clear hW5 hy q5 y5 HSE HAPP hz9 HW9 hs5
              go_wp2_with fail
              go_ret
              refine ⟨?_, ?_, ?_, ?_⟩
              · rw [HRES.out]; rfl
              · rw [HRES.out, ← HX1.out]
                have e : (W5.setCell ⟨gr, 5, none⟩ (.int .i64 ((nn : Int) + 1))).heap.size = w4.heap.size := by rw [← HE5.out]; simp [World.setCell]
                unfold Pn
                rw [e]
                exact HW10
              · rw [HRES.out]
                exact Lib.hid (HF9.out.keep (heap_setCell_other W5 ⟨gr, 5, none⟩ gm _ (fun e => HPM.out (by rw [e]; exact HPG.out))) (heap_setCell_other W5 ⟨gr, 5, none⟩ gB _ (fun e => HPB.out (by rw [e]; exact HPG.out))))
              · exact HFR9.out.trans (Frm.of_grown (F := fun b => b = gr) (grown_set W5 gr 5 _) (fun g h _ => by injection h with h; exact h.symm)) (fun b _ h => by rw [h]; exact .inl HPG.out)
            · go_simp
              refine (join_boxW [⟨A, sz, cap, d⟩] 1 rfl rfl AX3016.out (by intro r hr; obtain rfl := List.mem_singleton.1 hr; exact HROW.out _ (hH3016)) (by simp) (by show ([⟨A, sz, cap, d⟩].flatMap BRow.l).length ≤ _; simp; have := HDL.out; omega) (l := d) (by simp [flat])).mono ?_
              rintro e' wn3025 ⟨Ac3025, nc3025, rc, rfl, hnc3025, ho3025, hb3025⟩
              obtain rfl : sz = nc3025 := (hnc3025.out.trans HDL.out).symm
              obtain ⟨rg, rcc3025, hv3025, hg3025, hl3025⟩ := ho3025.form (by have := HS1.out; omega)
              injection hv3025 with e13025 e23025 e33025
              subst e13025 e33025
              have HNW3025 : Hid (RNew w gr (.slice Av nv cv) rg 0 sz d wn3025) := Lib.hid (rnew_of HVL.out HGL.out HBL.out (hH3016).fr.size hg3025 hl3025 (Row.of_own ho3025))
              clear ho3025 hnc3025
              go_simp
              have HRWd_3025 := Lib.hid (HRWd_3016.out.below hb3025)
              have HGWd_3025 := Lib.hid ((hb3025.block gr LGWd_3016.out).trans HGWd_3016.out)
              have LGWd_3025 := Lib.hid (Nat.lt_of_lt_of_le LGWd_3016.out hb3025.size)
              have AX3016_3025 := Lib.hid ((hb3025.block wd3000.heap.size AL3016.out).trans AX3016.out)
              have AL3016_3025 := Lib.hid (Nat.lt_of_lt_of_le AL3016.out hb3025.size)
              have hS3025 : SF wb gr (.slice Av nv cv) wn3025 := ((hH3016).below hb3025)
              refine hK.out _ _ hS3025 (fun hH3025 => ?_)
              have hH3025 : SF wb gr (.slice Av nv cv) wn3025 := hH3025
              clear hK K hS3025
              try simp only [Act.put, List.setIfInBounds_toArray, List.set_cons_zero, List.set_cons_succ]
              refine wpAnyH_take (i := 9) (oi := { dst := some 104, op := Op.build 77 #[(0, Operand.tmp 100), (1, Operand.tmp 103)], type := 77, pos := "ref.go:279", after := #[{ on := 5, ground := Ground.data }, { on := 8, ground := Ground.data }], guard := none }) (v := ?tkv3026) rfl (by kernel_rfl) (by kernel_rfl) (by kernel_rfl) (fun _ _ _ h => h) (Or.inl ⟨by rfl, ?tky3026⟩) hH3025 ?tkr3026
              case tky3026 => (intro w' hSw; clear hSw; go_simp; try with_reducible rfl)
              try simp only [Act.put, List.setIfInBounds_toArray, List.set_cons_zero, List.set_cons_succ]
              refine wpAnyH_ready (rs := [4, 10]) (by kernel_rfl) (by simp) ?_
              refine AllReadyH.cons (o := { dst := some 99, op := Op.load 44 (Operand.tmp 98), type := 44, pos := "ref.go:279", after := #[{ on := 3, ground := Ground.data }], guard := none }) rfl (fun K hK => ?_) (AllReadyH.cons (o := { dst := some 105, op := Op.buildSlice 44 1 #[(0, Operand.tmp 104)], type := 44, pos := "ref.go:279", after := #[{ on := 9, ground := Ground.data }], guard := none }) rfl (fun K hK => ?_) AllReadyH.nil)
              · have hc3027 := (rwc6 HGWd_3025.out).2.2.2.1
                go_simp
                clear hc3027
                have hS3027 : SF wb gr (.slice Av nv cv) wn3025 := hH3025
                refine hK.out _ _ hS3027 (fun hH3027 => ?_)
                have hH3027 : SF wb gr (.slice Av nv cv) wn3025 := hH3027
                clear hK K hS3027
                try simp only [Act.put, List.setIfInBounds_toArray, List.set_cons_zero, List.set_cons_succ]
                refine wpAnyH_ready (rs := [10]) (by kernel_rfl) (by simp) ?_
                refine AllReadyH.cons (o := { dst := some 105, op := Op.buildSlice 44 1 #[(0, Operand.tmp 104)], type := 44, pos := "ref.go:279", after := #[{ on := 9, ground := Ground.data }], guard := none }) rfl (fun K hK => ?_) AllReadyH.nil
                go_simp
                have hb3028 : Below wn3025.heap.size wn3025 (wn3025.alloc (.cells #[.int .u32 (id : Int), .slice (some ⟨rg, 0, none⟩) sz rc] 77)) := (Below.refl _ _).alloc (Nat.le_refl _) _
                have AX3028 : Hid ((wn3025.alloc (.cells #[.int .u32 (id : Int), .slice (some ⟨rg, 0, none⟩) sz rc] 77)).heap[wn3025.heap.size]? = some (.cells #[.int .u32 (id : Int), .slice (some ⟨rg, 0, none⟩) sz rc] 77 (0, 0))) := Lib.hid (heap_alloc_new _ _)
                have AL3028 : Hid (wn3025.heap.size < (wn3025.alloc (.cells #[.int .u32 (id : Int), .slice (some ⟨rg, 0, none⟩) sz rc] 77)).heap.size) := Lib.hid (by simp)
                generalize (wn3025.alloc (.cells #[.int .u32 (id : Int), .slice (some ⟨rg, 0, none⟩) sz rc] 77)) = wn3028 at *
                have HRWd_3028 := Lib.hid (HRWd_3025.out.below hb3028)
                have HGWd_3028 := Lib.hid ((hb3028.block gr LGWd_3025.out).trans HGWd_3025.out)
                have LGWd_3028 := Lib.hid (Nat.lt_of_lt_of_le LGWd_3025.out hb3028.size)
                have AX3016_3028 := Lib.hid ((hb3028.block wd3000.heap.size AL3016_3025.out).trans AX3016_3025.out)
                have AL3016_3028 := Lib.hid (Nat.lt_of_lt_of_le AL3016_3025.out hb3028.size)
                have HNW3025_3028 := Lib.hid (HNW3025.out.below hb3028)
                have hS3028 : SF wb gr (.slice Av nv cv) wn3028 := ((hH3027).below hb3028)
                refine hK.out _ _ hS3028 (fun hH3028 => ?_)
                have hH3028 : SF wb gr (.slice Av nv cv) wn3028 := hH3028
                clear hK K hS3028
                try simp only [Act.put, List.setIfInBounds_toArray, List.set_cons_zero, List.set_cons_succ]
                refine wpAnyH_ready (rs := [11]) (by kernel_rfl) (by simp) ?_
                refine AllReadyH.cons (o := { dst := some 106, op := Op.call { callee := Callee.builtin Builtin.append, args := #[Operand.tmp 99, Operand.tmp 105], argTypes := #[44, 44] }, type := 44, pos := "ref.go:279", after := #[{ on := 4, ground := Ground.data }, { on := 10, ground := Ground.data }, { on := 8, ground := Ground.chain }], guard := none }) rfl (fun K hK => ?_) AllReadyH.nil
                rw [if_pos (by rfl)]
                refine wp_app2 (.tmp 99) (.tmp 105) 44 rfl 0 77 i0 _ 32 Try.underlying44 hi hz0 hz1 hz2 rfl _ nv _ rfl HRWd_3028.out.1 _ 1 _ _ 77 rfl AX3028.out rfl rfl (by have := HNV.out; unfold maxLen; omega) (by have := HNV.out; omega) (Nat.zero_le _) ?_
                intro v4 w4 hown4 hg4 hat4
                obtain ⟨A4, c4, rfl⟩ := own2_form hown4
                have HAPP := Lib.hid (rwh_grow (h := { x with ready := (qs : Int) }) HGWd_3028.out HPG.out HPM.out HPB.out HGM.out HGB.out (Nat.le_trans HBL.out (hH3028).fr.size) HRWd_3028.out HES.out HNW3025_3028.out hown4 hg4 hat4)
                have hS3029 : SF wb gr (.slice Av nv cv) w4 := ((hH3028).app hg4)
                refine hK.out _ _ hS3029 (fun hH3029 => ?_)
                have hH3029 : SF wb gr (.slice Av nv cv) w4 := hH3029
                clear hK K hS3029
                try simp only [Act.put, List.setIfInBounds_toArray, List.set_cons_zero, List.set_cons_succ]
                refine wpAnyH_take (i := 12) (oi := { dst := some 107, op := Op.nilCheck (Operand.tmp 95), type := 0, pos := "ref.go:279", after := #[{ on := 0, ground := Ground.data }, { on := 0, ground := Ground.phase }, { on := 1, ground := Ground.phase }, { on := 2, ground := Ground.phase }, { on := 3, ground := Ground.phase }, { on := 4, ground := Ground.phase }, { on := 5, ground := Ground.phase }, { on := 6, ground := Ground.phase }, { on := 7, ground := Ground.phase }, { on := 8, ground := Ground.phase }, { on := 9, ground := Ground.phase }, { on := 10, ground := Ground.phase }, { on := 11, ground := Ground.phase }], guard := none }) (v := ?tkv3030) rfl (by kernel_rfl) (by kernel_rfl) (by kernel_rfl) (fun _ _ _ h => h) (Or.inl ⟨by rfl, ?tky3030⟩) hH3029 ?tkr3030
                case tky3030 => (intro w' hSw; clear hSw; go_simp; try with_reducible rfl)
                try simp only [Act.put, List.setIfInBounds_toArray, List.set_cons_zero, List.set_cons_succ]
                refine wpAnyH_take (i := 13) (oi := { dst := some 108, op := Op.fieldAddr 47 (Operand.tmp 107) 3, type := 0, pos := "ref.go:279", after := #[{ on := 12, ground := Ground.data }, { on := 0, ground := Ground.phase }, { on := 1, ground := Ground.phase }, { on := 2, ground := Ground.phase }, { on := 3, ground := Ground.phase }, { on := 4, ground := Ground.phase }, { on := 5, ground := Ground.phase }, { on := 6, ground := Ground.phase }, { on := 7, ground := Ground.phase }, { on := 8, ground := Ground.phase }, { on := 9, ground := Ground.phase }, { on := 10, ground := Ground.phase }, { on := 11, ground := Ground.phase }], guard := none }) (v := ?tkv3031) rfl (by kernel_rfl) (by kernel_rfl) (by kernel_rfl) (fun _ _ _ h => h) (Or.inl ⟨by rfl, ?tky3031⟩) hH3029 ?tkr3031
                case tky3031 => (intro w' hSw; clear hSw; go_simp; try with_reducible rfl)
                try simp only [Act.put, List.setIfInBounds_toArray, List.set_cons_zero, List.set_cons_succ]
                refine wpAnyH_ready (rs := [14]) (by kernel_rfl) (by simp) ?_
                refine AllReadyH.cons (o := { dst := none, op := Op.store 44 (Operand.tmp 108) (Operand.tmp 106), type := 0, pos := "ref.go:279", after := #[{ on := 13, ground := Ground.data }, { on := 11, ground := Ground.data }, { on := 11, ground := Ground.chain }, { on := 0, ground := Ground.phase }, { on := 1, ground := Ground.phase }, { on := 2, ground := Ground.phase }, { on := 3, ground := Ground.phase }, { on := 4, ground := Ground.phase }, { on := 5, ground := Ground.phase }, { on := 6, ground := Ground.phase }, { on := 7, ground := Ground.phase }, { on := 8, ground := Ground.phase }, { on := 9, ground := Ground.phase }, { on := 10, ground := Ground.phase }, { on := 11, ground := Ground.phase }], guard := none }) rfl (fun K hK => ?_) AllReadyH.nil
                have q3032 := rwc6 HAPP.out.1
                have y3032 := q3032.2.2.2.1
                have z3032 := q3032.2.2.2.2.2.2.1
                go_simp
                clear q3032 y3032 z3032
                have hS3032 : SF wb gr (.slice Av nv cv) (w4.setCell ⟨gr, 3, none⟩ (.slice A4 (nv + 1) c4)) := ((hH3029).set 3 (.slice A4 (nv + 1) c4))
                refine hK.out _ _ hS3032 (fun hH3032 => ?_)
                have hH3032 : SF wb gr (.slice Av nv cv) (w4.setCell ⟨gr, 3, none⟩ (.slice A4 (nv + 1) c4)) := hH3032
                clear hK K hS3032
                refine wpAnyH_done (by kernel_rfl) ?_ _
                refine NoPanic.normal ?_
                have HSE := Lib.hid (hH3032)
                have HW9 := HAPP.out.2
                have HFR9 : Hid (Frm w (w4.setCell ⟨gr, 3, none⟩ (.slice A4 (nv + 1) c4)) (RF P gm gB)) := HFB.out.trans HSE.out.fr (fun b hb h => by
                  rcases h with h | h
                  · rw [h]; exact .inl HPG.out
                  · exact .inl (HRW.out.2.1 b h).1)
                have HF9 : Hid (RfAt (w4.setCell ⟨gr, 3, none⟩ (.slice A4 (nv + 1) c4)) gm gB f3) := Lib.hid (HF8.out.keep (HSE.out.fr.block gm HF8.out.ltm (by
                    rintro (h | h)
                    · exact HPM.out (by rw [h]; exact HPG.out)
                    · exact HPM.out (HRW.out.2.1 gm h).1)) (HSE.out.fr.block gB HF8.out.ltB (by
                    rintro (h | h)
                    · exact HPB.out (by rw [h]; exact HPG.out)
                    · exact HPB.out (HRW.out.2.1 gB h).1)))
                have hz9 := HAPP.out.1
                obtain ⟨W5, hW5⟩ : ∃ W5, w4.setCell ⟨gr, 3, none⟩ (.slice A4 (nv + 1) c4) = W5 := ⟨_, rfl⟩
                have hs5 : W5.heap.size = w4.heap.size := by rw [← hW5]; simp [World.setCell]
                rw [hW5] at HW9 HFR9 HF9 ⊢
                have HWc9 := HW9
                obtain ⟨Ay, ny, cy, ey, hy, -, -, -, -⟩ := HWc9
                have q5 := rwc6 hy
                have y5 := q5.2.2.2.2.2.1
                have z5 := q5.2.2.2.2.2.2.2.2
                have y5' : W5.cell? ⟨gr, 5, none⟩ = some (.int .i64 (nn : Int)) := by rw [y5, ← HNN.out]
                have HW10 := Lib.hid (HW9.next (nn + 1) ((nn : Int) + 1) (by push_cast; rfl))
                have HE5 := Lib.hid hs5
                clear hW5 hy q5 y5 HSE HAPP hz9 HW9 hs5
                go_wp2_with fail
                go_ret
                refine ⟨?_, ?_, ?_, ?_⟩
                · rw [HRES.out]; rfl
                · rw [HRES.out, ← HX1.out]
                  have e : (W5.setCell ⟨gr, 5, none⟩ (.int .i64 ((nn : Int) + 1))).heap.size = w4.heap.size := by rw [← HE5.out]; simp [World.setCell]
                  unfold Pn
                  rw [e]
                  exact HW10
                · rw [HRES.out]
                  exact Lib.hid (HF9.out.keep (heap_setCell_other W5 ⟨gr, 5, none⟩ gm _ (fun e => HPM.out (by rw [e]; exact HPG.out))) (heap_setCell_other W5 ⟨gr, 5, none⟩ gB _ (fun e => HPB.out (by rw [e]; exact HPG.out))))
                · exact HFR9.out.trans (Frm.of_grown (F := fun b => b = gr) (grown_set W5 gr 5 _) (fun g h _ => by injection h with h; exact h.symm)) (fun b _ h => by rw [h]; exact .inl HPG.out)
              · go_simp
                have hb3033 : Below wn3025.heap.size wn3025 (wn3025.alloc (.cells #[.int .u32 (id : Int), .slice (some ⟨rg, 0, none⟩) sz rc] 77)) := (Below.refl _ _).alloc (Nat.le_refl _) _
                have AX3033 : Hid ((wn3025.alloc (.cells #[.int .u32 (id : Int), .slice (some ⟨rg, 0, none⟩) sz rc] 77)).heap[wn3025.heap.size]? = some (.cells #[.int .u32 (id : Int), .slice (some ⟨rg, 0, none⟩) sz rc] 77 (0, 0))) := Lib.hid (heap_alloc_new _ _)
                have AL3033 : Hid (wn3025.heap.size < (wn3025.alloc (.cells #[.int .u32 (id : Int), .slice (some ⟨rg, 0, none⟩) sz rc] 77)).heap.size) := Lib.hid (by simp)
                generalize (wn3025.alloc (.cells #[.int .u32 (id : Int), .slice (some ⟨rg, 0, none⟩) sz rc] 77)) = wn3033 at *
                have HRWd_3033 := Lib.hid (HRWd_3025.out.below hb3033)
                have HGWd_3033 := Lib.hid ((hb3033.block gr LGWd_3025.out).trans HGWd_3025.out)
                have LGWd_3033 := Lib.hid (Nat.lt_of_lt_of_le LGWd_3025.out hb3033.size)
                have AX3016_3033 := Lib.hid ((hb3033.block wd3000.heap.size AL3016_3025.out).trans AX3016_3025.out)
                have AL3016_3033 := Lib.hid (Nat.lt_of_lt_of_le AL3016_3025.out hb3033.size)
                have HNW3025_3033 := Lib.hid (HNW3025.out.below hb3033)
                have hS3033 : SF wb gr (.slice Av nv cv) wn3033 := ((hH3025).below hb3033)
                refine hK.out _ _ hS3033 (fun hH3033 => ?_)
                have hH3033 : SF wb gr (.slice Av nv cv) wn3033 := hH3033
                clear hK K hS3033
                try simp only [Act.put, List.setIfInBounds_toArray, List.set_cons_zero, List.set_cons_succ]
                refine wpAnyH_ready (rs := [4]) (by kernel_rfl) (by simp) ?_
                refine AllReadyH.cons (o := { dst := some 99, op := Op.load 44 (Operand.tmp 98), type := 44, pos := "ref.go:279", after := #[{ on := 3, ground := Ground.data }], guard := none }) rfl (fun K hK => ?_) AllReadyH.nil
                have hc3034 := (rwc6 HGWd_3033.out).2.2.2.1
                go_simp
                clear hc3034
                have hS3034 : SF wb gr (.slice Av nv cv) wn3033 := hH3033
                refine hK.out _ _ hS3034 (fun hH3034 => ?_)
                have hH3034 : SF wb gr (.slice Av nv cv) wn3033 := hH3034
                clear hK K hS3034
                try simp only [Act.put, List.setIfInBounds_toArray, List.set_cons_zero, List.set_cons_succ]
                refine wpAnyH_ready (rs := [11]) (by kernel_rfl) (by simp) ?_
                refine AllReadyH.cons (o := { dst := some 106, op := Op.call { callee := Callee.builtin Builtin.append, args := #[Operand.tmp 99, Operand.tmp 105], argTypes := #[44, 44] }, type := 44, pos := "ref.go:279", after := #[{ on := 4, ground := Ground.data }, { on := 10, ground := Ground.data }, { on := 8, ground := Ground.chain }], guard := none }) rfl (fun K hK => ?_) AllReadyH.nil
                rw [if_pos (by rfl)]
                refine wp_app2 (.tmp 99) (.tmp 105) 44 rfl 0 77 i0 _ 32 Try.underlying44 hi hz0 hz1 hz2 rfl _ nv _ rfl HRWd_3033.out.1 _ 1 _ _ 77 rfl AX3033.out rfl rfl (by have := HNV.out; unfold maxLen; omega) (by have := HNV.out; omega) (Nat.zero_le _) ?_
                intro v4 w4 hown4 hg4 hat4
                obtain ⟨A4, c4, rfl⟩ := own2_form hown4
                have HAPP := Lib.hid (rwh_grow (h := { x with ready := (qs : Int) }) HGWd_3033.out HPG.out HPM.out HPB.out HGM.out HGB.out (Nat.le_trans HBL.out (hH3034).fr.size) HRWd_3033.out HES.out HNW3025_3033.out hown4 hg4 hat4)
                have hS3035 : SF wb gr (.slice Av nv cv) w4 := ((hH3034).app hg4)
                refine hK.out _ _ hS3035 (fun hH3035 => ?_)
                have hH3035 : SF wb gr (.slice Av nv cv) w4 := hH3035
                clear hK K hS3035
                try simp only [Act.put, List.setIfInBounds_toArray, List.set_cons_zero, List.set_cons_succ]
                refine wpAnyH_take (i := 12) (oi := { dst := some 107, op := Op.nilCheck (Operand.tmp 95), type := 0, pos := "ref.go:279", after := #[{ on := 0, ground := Ground.data }, { on := 0, ground := Ground.phase }, { on := 1, ground := Ground.phase }, { on := 2, ground := Ground.phase }, { on := 3, ground := Ground.phase }, { on := 4, ground := Ground.phase }, { on := 5, ground := Ground.phase }, { on := 6, ground := Ground.phase }, { on := 7, ground := Ground.phase }, { on := 8, ground := Ground.phase }, { on := 9, ground := Ground.phase }, { on := 10, ground := Ground.phase }, { on := 11, ground := Ground.phase }], guard := none }) (v := ?tkv3036) rfl (by kernel_rfl) (by kernel_rfl) (by kernel_rfl) (fun _ _ _ h => h) (Or.inl ⟨by rfl, ?tky3036⟩) hH3035 ?tkr3036
                case tky3036 => (intro w' hSw; clear hSw; go_simp; try with_reducible rfl)
                try simp only [Act.put, List.setIfInBounds_toArray, List.set_cons_zero, List.set_cons_succ]
                refine wpAnyH_take (i := 13) (oi := { dst := some 108, op := Op.fieldAddr 47 (Operand.tmp 107) 3, type := 0, pos := "ref.go:279", after := #[{ on := 12, ground := Ground.data }, { on := 0, ground := Ground.phase }, { on := 1, ground := Ground.phase }, { on := 2, ground := Ground.phase }, { on := 3, ground := Ground.phase }, { on := 4, ground := Ground.phase }, { on := 5, ground := Ground.phase }, { on := 6, ground := Ground.phase }, { on := 7, ground := Ground.phase }, { on := 8, ground := Ground.phase }, { on := 9, ground := Ground.phase }, { on := 10, ground := Ground.phase }, { on := 11, ground := Ground.phase }], guard := none }) (v := ?tkv3037) rfl (by kernel_rfl) (by kernel_rfl) (by kernel_rfl) (fun _ _ _ h => h) (Or.inl ⟨by rfl, ?tky3037⟩) hH3035 ?tkr3037
                case tky3037 => (intro w' hSw; clear hSw; go_simp; try with_reducible rfl)
                try simp only [Act.put, List.setIfInBounds_toArray, List.set_cons_zero, List.set_cons_succ]
                refine wpAnyH_ready (rs := [14]) (by kernel_rfl) (by simp) ?_
                refine AllReadyH.cons (o := { dst := none, op := Op.store 44 (Operand.tmp 108) (Operand.tmp 106), type := 0, pos := "ref.go:279", after := #[{ on := 13, ground := Ground.data }, { on := 11, ground := Ground.data }, { on := 11, ground := Ground.chain }, { on := 0, ground := Ground.phase }, { on := 1, ground := Ground.phase }, { on := 2, ground := Ground.phase }, { on := 3, ground := Ground.phase }, { on := 4, ground := Ground.phase }, { on := 5, ground := Ground.phase }, { on := 6, ground := Ground.phase }, { on := 7, ground := Ground.phase }, { on := 8, ground := Ground.phase }, { on := 9, ground := Ground.phase }, { on := 10, ground := Ground.phase }, { on := 11, ground := Ground.phase }], guard := none }) rfl (fun K hK => ?_) AllReadyH.nil
                have q3038 := rwc6 HAPP.out.1
                have y3038 := q3038.2.2.2.1
                have z3038 := q3038.2.2.2.2.2.2.1
                go_simp
                clear q3038 y3038 z3038
                have hS3038 : SF wb gr (.slice Av nv cv) (w4.setCell ⟨gr, 3, none⟩ (.slice A4 (nv + 1) c4)) := ((hH3035).set 3 (.slice A4 (nv + 1) c4))
                refine hK.out _ _ hS3038 (fun hH3038 => ?_)
                have hH3038 : SF wb gr (.slice Av nv cv) (w4.setCell ⟨gr, 3, none⟩ (.slice A4 (nv + 1) c4)) := hH3038
                clear hK K hS3038
                refine wpAnyH_done (by kernel_rfl) ?_ _
                refine NoPanic.normal ?_
                have HSE := Lib.hid (hH3038)
                have HW9 := HAPP.out.2
                have HFR9 : Hid (Frm w (w4.setCell ⟨gr, 3, none⟩ (.slice A4 (nv + 1) c4)) (RF P gm gB)) := HFB.out.trans HSE.out.fr (fun b hb h => by
                  rcases h with h | h
                  · rw [h]; exact .inl HPG.out
                  · exact .inl (HRW.out.2.1 b h).1)
                have HF9 : Hid (RfAt (w4.setCell ⟨gr, 3, none⟩ (.slice A4 (nv + 1) c4)) gm gB f3) := Lib.hid (HF8.out.keep (HSE.out.fr.block gm HF8.out.ltm (by
                    rintro (h | h)
                    · exact HPM.out (by rw [h]; exact HPG.out)
                    · exact HPM.out (HRW.out.2.1 gm h).1)) (HSE.out.fr.block gB HF8.out.ltB (by
                    rintro (h | h)
                    · exact HPB.out (by rw [h]; exact HPG.out)
                    · exact HPB.out (HRW.out.2.1 gB h).1)))
                have hz9 := HAPP.out.1
                obtain ⟨W5, hW5⟩ : ∃ W5, w4.setCell ⟨gr, 3, none⟩ (.slice A4 (nv + 1) c4) = W5 := ⟨_, rfl⟩
                have hs5 : W5.heap.size = w4.heap.size := by rw [← hW5]; simp [World.setCell]
                rw [hW5] at HW9 HFR9 HF9 ⊢
                have HWc9 := HW9
                obtain ⟨Ay, ny, cy, ey, hy, -, -, -, -⟩ := HWc9
                have q5 := rwc6 hy
                have y5 := q5.2.2.2.2.2.1
                have z5 := q5.2.2.2.2.2.2.2.2
                have y5' : W5.cell? ⟨gr, 5, none⟩ = some (.int .i64 (nn : Int)) := by rw [y5, ← HNN.out]
                have HW10 := Lib.hid (HW9.next (nn + 1) ((nn : Int) + 1) (by push_cast; rfl))
                have HE5 := Lib.hid hs5
                clear hW5 hy q5 y5 HSE HAPP hz9 HW9 hs5
                go_wp2_with fail
                go_ret
                refine ⟨?_, ?_, ?_, ?_⟩
                · rw [HRES.out]; rfl
                · rw [HRES.out, ← HX1.out]
                  have e : (W5.setCell ⟨gr, 5, none⟩ (.int .i64 ((nn : Int) + 1))).heap.size = w4.heap.size := by rw [← HE5.out]; simp [World.setCell]
                  unfold Pn
                  rw [e]
                  exact HW10
                · rw [HRES.out]
                  exact Lib.hid (HF9.out.keep (heap_setCell_other W5 ⟨gr, 5, none⟩ gm _ (fun e => HPM.out (by rw [e]; exact HPG.out))) (heap_setCell_other W5 ⟨gr, 5, none⟩ gB _ (fun e => HPB.out (by rw [e]; exact HPG.out))))
                · exact HFR9.out.trans (Frm.of_grown (F := fun b => b = gr) (grown_set W5 gr 5 _) (fun g h _ => by injection h with h; exact h.symm)) (fun b _ h => by rw [h]; exact .inl HPG.out)
        · have h3' : (r3 != 0) = true := by simpa using h3
          have HRE : Hid (R = (X0, f3, r3)) := Lib.hid (by rw [HRRc.out, HRES1.out, if_neg (show ¬ (f3, r3).2 = 0 from h3)])
          clear h3
          go_wp2_with fail
          go_ret
          refine ⟨?_, ?_, ?_, HFR7⟩
          · rw [HRE.out]; rfl
          · rw [HRE.out, ← HX0.out]; exact Lib.hid (HW7.out.pn HGM.out HGB.out)
          · rw [HRE.out]; exact HF7
      · have h2' : (r2 != 0) = true := by simpa using h2
        have HRE : Hid (R = (X0, f2, r2)) := Lib.hid (by rw [HRRc.out, HRES0.out, if_neg (show ¬ (f2, r2).2 = 0 from h2), if_neg (show ¬ (f2, r2).2 = 0 from h2)])
        clear h2
        go_wp2_with fail
        go_ret
        refine ⟨?_, ?_, ?_, HFR6⟩
        · rw [HRE.out]; rfl
        · rw [HRE.out, ← HX0.out]; exact Lib.hid (HW6.out.pn HGM.out HGB.out)
        · rw [HRE.out]; exact HF6
    · have h1' : (r1 != 0) = true := by simpa using h1
      have HRE : Hid (R = (x, f1, r1)) := Lib.hid (HRR.out.trans (if_neg (show ¬ (f1, r1).2 = 0 from h1)))
      clear h1
      go_wp2_with fail
      go_ret
      refine ⟨?_, ?_, ?_, HFRd⟩
      · rw [HRE.out]; rfl
      · rw [HRE.out]; exact Lib.hid (HWd.out.pn HGM.out HGB.out)
      · rw [HRE.out]; exact HFd
end Go.Proofs.Ytekaoodagaplmaa
