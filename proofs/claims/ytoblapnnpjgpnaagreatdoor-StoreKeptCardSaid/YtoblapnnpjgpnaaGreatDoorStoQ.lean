/- A store: a wheel over flash, a decoder: as one object; Put, Kept, Needs, Image: by contracts. -/
import Derived.Test.YtoblapnnpjgpnaaGreatDoorZUQ
import Derived.Test.YtoblapnnpjgpnaaGreatDoorZTQ
import Derived.Test.YtoblapnnpjgpnaaGreatDoorSpMayQ
namespace Go.Proofs.YtoblapnnpjgpnaaGreatDoor.Sto
open Go.RowKit
open VecM RdM Vc Sp Pc El Cd Dc
/-- what a store is, besides where it lies -/
structure StD where
  s : Nat
  K : Nat
  P : Nat
  Z : Nat
  len : Nat
  x : Wh
  f : Fl
  M : Mx
  t : Nat
def stoC (Z len gw gd : Nat) : Array Value := #[.int .i64 (Z : Int), .int .i64 (len : Int), .pointer (some ⟨gw, 0, none⟩), .pointer (some ⟨gd, 0, none⟩)]
/-- the store q in block gs over the flash in block gf; its memory in blocks of which F says so -/
def IsSto (gf gs : Nat) (q : StD) (W : World) (F : Nat → Prop) : Prop :=
  F gs ∧ F gf ∧ gs ≠ gf ∧ ∃ gw gd P Fd, W.heap[gs]? = some (.cells (stoC q.Z q.len gw gd) 62 (0, 0)) ∧ WhAt P gw gf q.x W ∧ FlAt W gf q.f ∧ IsDec W Fd gd q.s q.K q.P q.Z q.M q.t ∧
    (∀ b, P b → F b ∧ b ≠ gs ∧ ¬ Fd b ∧ b < W.heap.size) ∧ (∀ b, Fd b → F b ∧ b ≠ gs ∧ b ≠ gf ∧ b < W.heap.size)
structure StOk (q : StD) (n : Nat) : Prop where
  s : q.s < 4294967296
  K : 1 ≤ q.K ∧ q.K ≤ 64
  P : q.P ≤ 16
  Z : 1 ≤ q.Z ∧ q.Z ≤ 16
  inv : Inv (q.K + q.P) q.Z q.M
  xi : XI n q.x
  xz : q.x.size = q.Z
  f : q.f.Ok (400 * (n : Int))
  t : q.t ≤ 200 + n
section
variable {gf gs : Nat} {q : StD} {W W' : World} {F : Nat → Prop}
theorem IsSto.keep (h : IsSto gf gs q W F) (hk : ∀ b, F b → b < W.heap.size → W'.heap[b]? = W.heap[b]?) (hs : W.heap.size ≤ W'.heap.size) : IsSto gf gs q W' F := by
  obtain ⟨h1, h2, h3, gw, gd, P, Fd, h4, h5, h6, h7, h8, h9⟩ := h
  exact ⟨h1, h2, h3, gw, gd, P, Fd, (hk gs h1 (Array.getElem?_eq_some_iff.1 h4).1).trans h4, h5.keep (fun b hb hl => hk b (h8 b hb).1 hl) hs, h6.keep (hk gf h2 h6.lt), h7.keep (fun b hb hl => hk b (h9 b hb).1 hl), fun b hb => by have := h8 b hb; exact ⟨this.1, this.2.1, this.2.2.1, by omega⟩, fun b hb => by have := h9 b hb; exact ⟨this.1, this.2.1, this.2.2.1, by omega⟩⟩
theorem IsSto.more {F' : Nat → Prop} (h : IsSto gf gs q W F) (hF : ∀ b, F b → F' b) : IsSto gf gs q W F' := by
  obtain ⟨h1, h2, h3, gw, gd, P, Fd, h4, h5, h6, h7, h8, h9⟩ := h
  exact ⟨hF _ h1, hF _ h2, h3, gw, gd, P, Fd, h4, h5, h6, h7, fun b hb => ⟨hF b (h8 b hb).1, (h8 b hb).2⟩, fun b hb => ⟨hF b (h9 b hb).1, (h9 b hb).2⟩⟩
end
def stoO (gf gs : Nat) (q : StD) : Dc.Obj := fun W F => IsSto gf gs q W F
theorem keeps_sto (gf gs : Nat) (q : StD) : Keeps (stoO gf gs q) := fun _ _ _ h hk hs => IsSto.keep h hk hs
def flO (gf : Nat) (f : Fl) : Dc.Obj := fun W F => F gf ∧ FlAt W gf f
theorem stc {W : World} {gs Z len gw gd : Nat} (h : W.heap[gs]? = some (.cells (stoC Z len gw gd) 62 (0, 0))) :
    W.cell? ⟨gs, 0, none⟩ = some (.int .i64 (Z : Int)) ∧ W.cell? ⟨gs, 1, none⟩ = some (.int .i64 (len : Int)) ∧ W.cell? ⟨gs, 2, none⟩ = some (.pointer (some ⟨gw, 0, none⟩)) ∧ W.cell? ⟨gs, 3, none⟩ = some (.pointer (some ⟨gd, 0, none⟩)) := by
  refine ⟨?_, ?_, ?_, ?_⟩ <;> (rw [cell_of_row W gs _ _ _ (0, 0) h]; rfl)
theorem fr_of_frm {w w' : World} {F : Nat → Prop} (h : Frm w w' F) : Fr w w' F := ⟨h.os, h.tape, h.output, h.size, h.block⟩
/-- what Put makes of a store -/
def StD.put (q : StD) (id : Nat) (d : List UInt8) : StD × Int :=
  if d.length = q.Z then
    if (redM q.M (spX q.s q.K q.P id) [] (q.K + q.P)).1 = 0 then (q, 8)
    else if (q.x.add q.f id d).2.2 = 0 then ({ q with x := (q.x.add q.f id d).1, f := (q.x.add q.f id d).2.1, M := (addMx (q.K + q.P) q.M (spX q.s q.K q.P id) d).1, t := q.t + if (addMx (q.K + q.P) q.M (spX q.s q.K q.P id) d).2 then 1 else 0 }, 0)
    else ({ q with x := (q.x.add q.f id d).1, f := (q.x.add q.f id d).2.1 }, (q.x.add q.f id d).2.2)
  else (q, 3)
def PutOk (F : Nat → Prop) (gf gs : Nat) (r : StD × Int) (w : World) (e : Ending) (w' : World) : Prop :=
  e = .returned (.int .i64 r.2) ∧ Hid (IsSto gf gs r.1 w' (fun b => F b ∨ (w.heap.size ≤ b ∧ b < w'.heap.size))) ∧ Hid (Fr w w' F)
set_option maxRecDepth 100000 in
set_option maxHeartbeats 3200000 in
theorem put_any (gf gs : Nat) (q : StD) (F : Nat → Prop) (k : Nat) (hk : k ≤ 900) (id n c : Nat) (A : Option Addr) (d : List UInt8) (w : World) (h : IsSto gf gs q w F) (ok : StOk q k) (hT : ∀ W, Fr w W F → DTab W) (hl : Row w w.heap.size A n (bv d)) (hA : ∀ b o, A = some ⟨b, o, none⟩ → 0 < n → ¬ F b) (hid : id < 4294967296) :
    Calls Tryz.prog 9 #[.pointer (some ⟨gs, 0, none⟩), .int .u32 (id : Int), .slice A n c] w (PutOk F gf gs (q.put id d) w) := by
  have hS0 := Lib.hid h
  obtain ⟨h1, h2, h3, gw, gd, P, Fd, h4, h5, h6, h7, h8, h9⟩ := h
  have hdl := hl.blen
  obtain ⟨R, hR⟩ : ∃ R, q.put id d = R := ⟨_, rfl⟩
  rw [hR]
  obtain ⟨u0, u1, u2, u3⟩ := stc h4
  have H8 := Lib.hid h8
  have H9 := Lib.hid h9
  have OK := Lib.hid ok
  have HT := Lib.hid hT
  obtain ⟨sz, hsz⟩ : ∃ z, q.Z = z := ⟨_, rfl⟩
  by_cases hn : n = q.Z
  · have hSY := Lib.hid (says_any Fd gd q.s q.K q.P q.Z q.t id q.M w h7 ok.s hid ok.K ok.P ok.Z (hT w (Fr.refl _ _)))
    by_cases hz : (redM q.M (spX q.s q.K q.P id) [] (q.K + q.P)).1 = 0
    · have HR : Hid (R = (q, 8)) := Lib.hid (by rw [← hR]; unfold StD.put; rw [if_pos (by rw [hdl]; exact hn), if_pos hz])
      rw [HR.out]
      rw [decide_eq_false (show ¬ _ ≠ 0 from fun e => e hz)] at hSY
      rw [hsz] at u0 hn
      subst hn
      have hnb : ((n : Int) != (n : Int)) = false := bne_self_eq_false _
      clear hR HR h1 h2 h3 h4 h5 h6 h7 h8 h9 hdl hsz ok hT hl hA hz u1 u2
      go_enter Tryz.func9, Tryz.ntmps9
      go_wp2_with fail
      refine hSY.out.mono ?_
      rintro e w1 ⟨rfl, hb1⟩
      go_wp2_with fail
      go_ret
      exact ⟨rfl, Lib.hid ((hS0.out.keep (fun b _ hl => hb1.out.block b hl) hb1.out.size).more fun b hb => .inl hb), Lib.hid (Fr.of_below hb1.out)⟩
    · rw [decide_eq_true (show _ ≠ 0 from hz)] at hSY
      have hnx : n = q.x.size := hn.trans ok.xz.symm
      have HAD := Lib.hid (fun W (hW : Below w.heap.size w W) => add_in P gw gf id w.heap.size c A q.x d q.f (400 * (k : Int)) W (h5.below hW) (h6.below hW) ok.xi.ok ok.f (by omega) (by rw [← hnx]; exact hl.below hW) (fun b o e => ⟨fun e2 => hA b o e (by have := ok.Z; omega) (by rw [e2]; exact h2), fun e2 => hA b o e (by have := ok.Z; omega) (h8 b e2).1⟩) hW.size hid)
      rw [← hnx] at HAD
      have HRR : Hid (R = if (q.x.add q.f id d).2.2 = 0 then ({ q with x := (q.x.add q.f id d).1, f := (q.x.add q.f id d).2.1, M := (addMx (q.K + q.P) q.M (spX q.s q.K q.P id) d).1, t := q.t + if (addMx (q.K + q.P) q.M (spX q.s q.K q.P id) d).2 then 1 else 0 }, 0)
          else ({ q with x := (q.x.add q.f id d).1, f := (q.x.add q.f id d).2.1 }, (q.x.add q.f id d).2.2)) := Lib.hid (by rw [← hR]; unfold StD.put; rw [if_pos (by rw [hdl]; exact hn), if_neg hz])
      obtain ⟨x9, f9, r9, hE⟩ : ∃ x9 f9 r9, q.x.add q.f id d = (x9, f9, r9) := ⟨_, _, _, rfl⟩
      rw [hE] at HRR
      simp only [hE] at HAD
      have H1 := Lib.hid h1
      have H2 := Lib.hid h2
      have H3 := Lib.hid h3
      have H4 := Lib.hid h4
      have H6 := Lib.hid h6.lt
      have H7 := Lib.hid h7
      have HL := Lib.hid hl
      have HA := Lib.hid hA
      have HPF : Hid (¬ P gf) := Lib.hid (by obtain ⟨_, _, _, _, _, _, q, _⟩ := h5; exact q)
      have HGS := Lib.hid (Array.getElem?_eq_some_iff.1 h4).1
      have HDL : Hid (d.length = q.Z) := Lib.hid (hdl.trans hn)
      rw [hsz] at u0 hn
      have HNZ : Hid (n = q.Z) := Lib.hid (hn.trans hsz.symm)
      subst hn
      have hnb : ((n : Int) != (n : Int)) = false := bne_self_eq_false _
      clear hR h1 h2 h3 h4 h5 h6 h7 h8 h9 hdl hsz ok hT hl hA hz u1 hE hnx
      go_enter Tryz.func9, Tryz.ntmps9
      go_wp2_with fail
      refine hSY.out.mono ?_
      rintro e w1 ⟨rfl, hb1⟩
      have HB1 := Lib.hid hb1.out
      obtain ⟨v0, v1, v2, v3⟩ := stc ((HB1.out.block gs HGS.out).trans H4.out)
      clear hb1 u0 u2 u3 hSY
      go_wp2_with fail
      refine (HAD.out w1 HB1.out).mono ?_
      rintro e w2 ⟨rfl, hw2, hf2, hfr2⟩
      dsimp only
      have HW2 := Lib.hid hw2.out
      have HF2 := Lib.hid hf2.out
      have HFR : Hid (Fr w w2 F) := Lib.hid ((Fr.of_below (F := F) HB1.out).trans (fr_of_frm hfr2.out) (fun b _ hb => by
        rcases hb with e | e
        · exact (H8.out b e).1
        · rw [e]; exact H2.out))
      have hs1 := HB1.out.size
      have hs2 := hfr2.out.size
      have HDK : Hid (IsDec w2 Fd gd q.s q.K q.P q.Z q.M q.t) := Lib.hid (H7.out.below HB1.out |>.keep (fun b hb hl => hfr2.out.block b hl (by
        rintro (e | e)
        · exact (H8.out b e).2.2.1 hb
        · exact (H9.out b hb).2.2.1 e)))
      have H42 : Hid (w2.heap[gs]? = some (.cells (stoC q.Z q.len gw gd) 62 (0, 0))) := Lib.hid (((hfr2.out.block gs (by have := HGS.out; omega) (by
        rintro (e | e)
        · exact (H8.out gs e).2.1 rfl
        · exact H3.out e)).trans (HB1.out.block gs HGS.out)).trans H4.out)
      have HSZ2 : Hid (w.heap.size ≤ w1.heap.size ∧ w1.heap.size ≤ w2.heap.size) := Lib.hid ⟨hs1, hs2⟩
      clear hw2 hf2 hfr2 v0 v1 v2 v3 HAD hs1 hs2
      by_cases hr : r9 = 0
      · subst hr
        have HRES : Hid (R = ({ q with x := x9, f := f9, M := (addMx (q.K + q.P) q.M (spX q.s q.K q.P id) d).1, t := q.t + if (addMx (q.K + q.P) q.M (spX q.s q.K q.P id) d).2 then 1 else 0 }, 0)) := Lib.hid (by rw [HRR.out]; exact if_pos rfl)
        have HLW : Hid (Row w2 w2.heap.size A n (bv d)) := Lib.hid (by
          have e := HL.out
          obtain ⟨e1, e2⟩ := e
          refine ⟨e1, fun h0 => ?_⟩
          obtain ⟨b, o, e3, e4, e5⟩ := e2 h0
          have hnF := HA.out b o e3 h0
          refine ⟨b, o, e3, by have := HSZ2.out; omega, fun j v hv => ?_⟩
          rw [World.cell?_of_block (w := w) (a := ⟨b, o + j, none⟩) (HFR.out.block b e4 hnF)]
          exact e5 j v hv)
        rw [HNZ.out] at HLW
        have HTK := Lib.hid (take_any Fd gd q.s q.K q.P q.Z q.t id c A d q.M w2 HDK.out OK.out.inv OK.out.s hid OK.out.K OK.out.P OK.out.Z HDL.out HLW.out (HT.out w2 HFR.out) (by have := OK.out.t; omega))
        rw [← HNZ.out] at HTK
        obtain ⟨v0, v1, v2, v3⟩ := stc H42.out
        clear v0 v1 v2
        go_wp2_with fail
        refine HTK.out.mono ?_
        rintro e w3 ⟨rfl, hd3, hf3⟩
        clear HTK v3
        go_wp2_with fail
        go_ret
        have q1 := HSZ2.out
        have q2 := hf3.out.size
        have hd3' := hd3.out
        rw [HNZ.out] at hd3'
        rw [HRES.out]
        refine ⟨rfl, Lib.hid ?_, Lib.hid (HFR.out.trans hf3.out (fun b _ hb => (H9.out b hb).1))⟩
        refine ⟨.inl H1.out, .inl H2.out, H3.out, gw, gd, Pn P w1 w2, (fun b => Fd b ∨ (w2.heap.size ≤ b ∧ b < w3.heap.size)), ?_, ?_, ?_, hd3', ?_, ?_⟩
        · exact (hf3.out.block gs (by have := HGS.out; omega) (fun e => (H9.out gs e).2.1 rfl)).trans H42.out
        · exact HW2.out.keep (fun b hb hl => hf3.out.block b hl (fun e => by
            rcases hb with hb | hb
            · exact (H8.out b hb).2.2.1 e
            · have := (H9.out b e).2.2.2; omega)) q2
        · exact HF2.out.keep (hf3.out.block gf (by have := H6.out; omega) (fun e => (H9.out gf e).2.2.1 rfl))
        · rintro b (hb | hb)
          · have := H8.out b hb
            exact ⟨.inl this.1, this.2.1, (by
              rintro (e | e)
              · exact this.2.2.1 e
              · omega), by omega⟩
          · have := HGS.out
            exact ⟨.inr ⟨by omega, by omega⟩, by omega, (by
              rintro (e | e)
              · have := (H9.out b e).2.2.2; omega
              · omega), by omega⟩
        · rintro b (hb | hb)
          · have := H9.out b hb
            exact ⟨.inl this.1, this.2.1, this.2.2.1, by omega⟩
          · have := HGS.out
            have := H6.out
            exact ⟨.inr ⟨by omega, by omega⟩, by omega, by omega, by omega⟩
      · have hr' : (r9 != 0) = true := by simpa using hr
        have HRES : Hid (R = ({ q with x := x9, f := f9 }, r9)) := Lib.hid (by rw [HRR.out]; exact if_neg hr)
        clear hr
        go_wp2_with fail
        go_ret
        have q1 := HSZ2.out
        rw [HRES.out]
        refine ⟨rfl, Lib.hid ?_, HFR⟩
        refine ⟨.inl H1.out, .inl H2.out, H3.out, gw, gd, Pn P w1 w2, Fd, H42.out, HW2.out, HF2.out, HDK.out, ?_, ?_⟩
        · rintro b (hb | hb)
          · have := H8.out b hb
            exact ⟨.inl this.1, this.2.1, this.2.2.1, by omega⟩
          · have := HGS.out
            exact ⟨.inr ⟨by omega, by omega⟩, by omega, (fun e => by have := (H9.out b e).2.2.2; omega), by omega⟩
        · intro b hb
          have := H9.out b hb
          exact ⟨.inl this.1, this.2.1, this.2.2.1, by omega⟩
  · have HR : Hid (R = (q, 3)) := Lib.hid (by rw [← hR]; unfold StD.put; rw [if_neg (by rw [hdl]; exact hn)])
    rw [HR.out]
    rw [hsz] at u0 hn
    have hnb : ((n : Int) != (sz : Int)) = true := bne_iff_ne.2 (by omega)
    have hni : ¬ (n : Int) = (sz : Int) := by omega
    clear hR HR h1 h2 h3 h4 h5 h6 h7 h8 h9 hdl hsz ok hT hl hA hn u1 u2 u3
    go_enter Tryz.func9, Tryz.ntmps9
    go_wp2_with fail
    go_ret
    exact ⟨rfl, Lib.hid (hS0.out.more fun b hb => .inl hb), Lib.hid (Fr.refl _ _)⟩
theorem add_size (x : Wh) (f : Fl) (id : Nat) (d : List UInt8) : (x.add f id d).1.size = x.size := by
  unfold Wh.add
  repeat' split
  all_goals rfl
theorem StOk.put {q : StD} {n : Nat} (h : StOk q n) (hn : n ≤ 100) (id : Nat) (d : List UInt8) : StOk (q.put id d).1 (n + 1) := by
  have h0 : StOk q (n + 1) := ⟨h.s, h.K, h.P, h.Z, h.inv, h.xi.more (by omega), h.xz, h.f.more (by push_cast; omega), by have := h.t; omega⟩
  unfold StD.put
  split
  · rename_i hd
    have hf : (q.x.add q.f id d).2.1.Ok (400 * ((n + 1 : Nat) : Int)) := (h.f.addW q.x id d (by have := h.Z; omega)).more (by push_cast; omega)
    have hx := h.xi.add hn q.f id d
    have hz : (q.x.add q.f id d).1.size = q.Z := (add_size _ _ _ _).trans h.xz
    split
    · exact h0
    · split
      · refine ⟨h.s, h.K, h.P, h.Z, addMx_inv h.inv (by have := h.K; have := h.P; omega) (spX_lt (s := q.s) (K := q.K) (P := q.P) (id := id)) hd, hx, hz, hf, ?_⟩
        show q.t + (if _ then 1 else 0) ≤ _
        have := h.t
        split <;> omega
      · exact ⟨h.s, h.K, h.P, h.Z, h.inv, hx, hz, hf, h0.t⟩
  · exact h0
theorem kept_any (gf gs : Nat) (q : StD) (F : Nat → Prop) (w : World) (h : IsSto gf gs q w F) : Calls Tryz.prog 10 #[.pointer (some ⟨gs, 0, none⟩)] w fun e w' => e = .returned (.int .i64 (q.t : Int)) ∧ w = w' := by
  obtain ⟨h1, h2, h3, gw, gd, P, Fd, h4, h5, h6, h7, h8, h9⟩ := h
  obtain ⟨u0, u1, u2, u3⟩ := stc h4
  have HT := Lib.hid (taken_any Fd gd q.s q.K q.P q.Z q.t q.M w h7)
  clear h4 h5 h6 h7 h8 h9 u0 u1 u2
  go_enter Tryz.func10, Tryz.ntmps10
  go_wp2_with fail
  refine HT.out.mono ?_
  rintro e w1 ⟨rfl, rfl⟩
  go_wp2_with fail
  go_ret
  exact ⟨rfl, rfl⟩
theorem sneeds_any (gf gs : Nat) (q : StD) (n : Nat) (F : Nat → Prop) (w : World) (h : IsSto gf gs q w F) (ok : StOk q n) : Calls Tryz.prog 11 #[.pointer (some ⟨gs, 0, none⟩)] w fun e w' => e = .returned (.int .i64 ((q.K : Int) + (q.P : Int) - (rankM q.M : Int))) ∧ Hid (Below w.heap.size w w') := by
  obtain ⟨h1, h2, h3, gw, gd, P, Fd, h4, h5, h6, h7, h8, h9⟩ := h
  obtain ⟨u0, u1, u2, u3⟩ := stc h4
  have HT := Lib.hid (needs_any Fd gd q.s q.K q.P q.Z q.t q.M w h7 ok.inv ok.K ok.P ok.Z)
  clear h4 h5 h6 h7 h8 h9 u0 u1 u2 ok
  go_enter Tryz.func11, Tryz.ntmps11
  go_wp2_with fail
  refine HT.out.mono ?_
  rintro e w1 ⟨rfl, hb⟩
  go_wp2_with fail
  go_ret
  exact ⟨rfl, hb⟩
end Go.Proofs.YtoblapnnpjgpnaaGreatDoor.Sto
