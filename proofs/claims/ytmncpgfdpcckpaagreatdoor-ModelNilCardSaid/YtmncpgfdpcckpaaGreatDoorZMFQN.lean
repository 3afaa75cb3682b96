/- A device without flash, as data: what each call makes of it. -/
import Derived.Deep.MidRow
import Derived.Deep.Upon
import Derived.Test.YtmncpgfdpcckpaaGreatDoorZMCQN
import Derived.Test.YtmncpgfdpcckpaaGreatDoorZMDQN
import Derived.Test.YtmncpgfdpcckpaaGreatDoorZZDQN
import Derived.Test.YtmncpgfdpcckpaaGreatDoorDcMathQN
import Derived.Test.YtmncpgfdpcckpaaGreatDoorDcIQN
import Derived.Test.YtmncpgfdpcckpaaGreatDoorZMQN
import Derived.Test.YtmncpgfdpcckpaaGreatDoorZCQN
import Derived.Test.YtmncpgfdpcckpaaGreatDoorZQQN
import Derived.Test.YtmncpgfdpcckpaaGreatDoorZDQN
namespace Go.Proofs.YtmncpgfdpcckpaaGreatDoor.Mo
open Go.RowKit
open VecM RdM Vc Sp Pc El Cd Dc
structure DeD where
 s : Nat
 K : Nat
 P : Nat
 Z : Nat
 M : Mx
 t : Nat
structure MoD where
 key : List UInt8
 L : LSt
 i0 : List UInt8
 i1 : List UInt8
 d : Option DeD
def newDe (M : LMan) : DeD := ⟨M.s, BlkM.count M.l M.z, M.p.toNat, M.z.toNat, matR M.s (BlkM.count M.l M.z) M.p.toNat M.z.toNat M.p.toNat, 0⟩
def MoD.man (q : MoD) (m : List UInt8) : MoD × Int :=
 if parE q.key m = 0 then
  if q.L.admitR (parM q.key m) = 0 then ({ q with L := q.L.admitted (parM q.key m), d := some (newDe (parM q.key m)) }, 0)
  else (q, q.L.admitR (parM q.key m))
 else (q, parE q.key m)
def DeD.image (D : DeD) (len : Int) : List UInt8 := joinLs ((solM D.M).take D.K) len
def MoD.fin (q : MoD) (D : DeD) : MoD × Int :=
 if Sha.D (D.image q.L.m.l) = q.L.m.h then
  ({ q with L := q.L.activate, d := none, i0 := if q.L.act = 0 then q.i0 else D.image q.L.m.l, i1 := if q.L.act = 0 then D.image q.L.m.l else q.i1 }, 0)
 else ({ q with L := q.L.drop, d := none }, 13)
def DeD.says (D : DeD) (id : Nat) (l : List UInt8) : Bool := (addMx (D.K + D.P) D.M (spX D.s D.K D.P id) l).2
def DeD.take (D : DeD) (id : Nat) (l : List UInt8) : DeD := { D with M := (addMx (D.K + D.P) D.M (spX D.s D.K D.P id) l).1, t := D.t + if (addMx (D.K + D.P) D.M (spX D.s D.K D.P id) l).2 then 1 else 0 }
def MoD.symD (q : MoD) (D : DeD) (id : Nat) (l : List UInt8) : MoD × Int :=
 if D.says id l = true then
  if rankM (D.take id l).M = D.K + D.P then q.fin (D.take id l) else ({ q with d := some (D.take id l) }, 0)
 else (q, 8)
def MoD.sym (q : MoD) (b : List UInt8) : MoD × Int :=
 if b.length ≤ 8 then (q, 2) else if 24 < b.length then (q, 3) else if q.L.on = false then (q, 14)
 else if CrcM.number (b.take 4) ≠ q.L.m.s then (q, 7) else if ((b.length - 8 : Nat) : Int) ≠ q.L.m.z then (q, 3)
 else match q.d with
  | none => (q, 8)
  | some D => q.symD D (CrcM.number ((b.drop 4).take 4)) (b.drop 8)
def MoD.pk (q : MoD) (k : Nat) (m : List UInt8) (g : Int) : MoD × Int := if g ≠ 0 then (q, g) else if k = 1 then q.man m else if k = 2 then q.sym m else (q, 3)
def MoD.run (q : MoD) : List UInt8 := if q.L.act = 0 then q.i0 else q.i1
structure DeOk (D : DeD) (m : LMan) (n : Nat) : Prop where
 s : D.s = m.s
 s32 : D.s < 4294967296
 K : 1 ≤ D.K ∧ D.K ≤ 64
 P : D.P ≤ 16
 Z : 1 ≤ D.Z ∧ D.Z ≤ 16
 zz : (D.Z : Int) = m.z
 pp : (D.P : Int) = m.p
 cn : BlkM.count m.l (D.Z : Int) = D.K
 inv : Inv (D.K + D.P) D.Z D.M
 t : D.t ≤ n
structure MoOk (q : MoD) (n : Nat) : Prop where
 k : q.key.length ≤ 64
 may : q.L.may = true
 i0 : q.i0.length ≤ 512
 i1 : q.i1.length ≤ 512
 on : q.L.on = true → q.L.trial = 0 ∧ ∃ D, q.d = some D ∧ DeOk D q.L.m n
 off : q.L.on = false → q.d = none
theorem DeOk.more {D : DeD} {m : LMan} {n k : Nat} (h : DeOk D m n) (hk : n ≤ k) : DeOk D m k := ⟨h.s, h.s32, h.K, h.P, h.Z, h.zz, h.pp, h.cn, h.inv, Nat.le_trans h.t hk⟩
theorem MoOk.more {q : MoD} {n k : Nat} (h : MoOk q n) (hk : n ≤ k) : MoOk q k := ⟨h.k, h.may, h.i0, h.i1, fun e => by obtain ⟨a, D, b, c⟩ := h.on e; exact ⟨a, D, b, c.more hk⟩, h.off⟩
theorem newDe_ok {M : LMan} (hm : M.may = true) (hs : M.s < 4294967296) : DeOk (newDe M) M 0 := by
 obtain ⟨L, Z, P, e1, e2, e3, b1, b2, b3, b4, b5, b6⟩ := man_bounds hm
 have hK : 1 ≤ BlkM.count M.l M.z ∧ BlkM.count M.l M.z ≤ 64 := by
  have h := hm
  simp only [LMan.may, manB, ofB, mayB, Bool.and_eq_true, decide_eq_true_eq] at h
  omega
 have z1 : M.z.toNat = Z := by rw [e2]; rfl
 have p1 : M.p.toNat = P := by rw [e3]; rfl
 refine ⟨rfl, hs, hK, ?_, ?_, ?_, ?_, ?_, ?_, Nat.le_refl _⟩
 ·show M.p.toNat ≤ 16; omega
 ·show 1 ≤ M.z.toNat ∧ M.z.toNat ≤ 16; omega
 ·show ((M.z.toNat : Nat) : Int) = M.z; omega
 ·show ((M.p.toNat : Nat) : Int) = M.p; omega
 ·show BlkM.count M.l ((M.z.toNat : Nat) : Int) = BlkM.count M.l M.z
  rw [show ((M.z.toNat : Nat) : Int) = M.z by omega]
 ·exact (matR_got (s := M.s) (K := BlkM.count M.l M.z) (P := M.p.toNat) (Z := M.z.toNat) (by omega) M.p.toNat (Nat.le_refl _)).inv
theorem parM_s (key m : List UInt8) : (parM key m).s < 4294967296 := by
 unfold parM
 split
 ·rename_i h
  unfold readM
  split
  ·show CrcM.number ((m.take 44).take 4) < 4294967296
   exact num_lt4 (by rw [List.length_take, List.length_take]; omega)
  ·decide
 ·decide
theorem take_old {D : DeD} {id : Nat} {l : List UInt8} (h : D.says id l = false) : D.take id l = D := by
 unfold DeD.says at h
 have e : (redM D.M (spX D.s D.K D.P id) l (D.K + D.P)).1 = 0 := by
  unfold addMx at h
  split at h
  ·assumption
  ·cases h
 unfold DeD.take
 rw [addMx_no e]
 rfl
theorem take_ok {D : DeD} {m : LMan} {n id : Nat} {l : List UInt8} (h : DeOk D m n) (hl : l.length = D.Z) : DeOk (D.take id l) m (n + 1) :=
 ⟨h.s, h.s32, h.K, h.P, h.Z, h.zz, h.pp, h.cn, addMx_inv h.inv (by have := h.K; have := h.P; omega) (spX_lt (s := D.s) (id := id)) hl, by
  show D.t + (if _ then 1 else 0) ≤ n + 1
  have := h.t
  split <;> omega⟩
theorem joinLs_le (ls : List (List UInt8)) (len : Int) : (joinLs ls len).length ≤ 512 := by
 unfold joinLs
 split
 ·exact Nat.zero_le _
 ·split
  ·exact Nat.zero_le _
  ·rw [List.length_take]; omega
theorem activate_on (L : LSt) : L.activate.on = false := (activate_is L).2.2.2
theorem drop_on {L : LSt} (h : L.may = true) : L.drop.on = false ∧ L.drop.may = true := by
 have e : L.drop = { L with on := false, m := LMan.zero } := by unfold LSt.drop; rw [if_pos h]
 rw [e]
 exact ⟨rfl, may_off h⟩
theorem MoOk.man {q : MoD} {n : Nat} (h : MoOk q n) (m : List UInt8) : MoOk (q.man m).1 n := by
 unfold MoD.man
 split
 ·split
  ·rename_i h1 h2
   obtain ⟨a1, a2, a3, _, _, _⟩ := admitR_zero h2
   exact ⟨h.k, may_man a1 a2 _, h.i0, h.i1, fun _ => ⟨a3, _, rfl, (newDe_ok a2 (parM_s _ _)).more (Nat.zero_le _)⟩, fun e => by cases e⟩
  ·exact h
 ·exact h
theorem MoOk.fin {q : MoD} {n : Nat} (h : MoOk q n) (hon : q.L.on = true) (D : DeD) : MoOk (q.fin D).1 n := by
 unfold MoD.fin
 split
 ·refine ⟨h.k, activate_may h.may hon, ?_, ?_, fun e => ?_, fun _ => rfl⟩
  ·show (if q.L.act = 0 then q.i0 else D.image q.L.m.l).length ≤ 512
   split
   ·exact h.i0
   ·exact joinLs_le _ _
  ·show (if q.L.act = 0 then D.image q.L.m.l else q.i1).length ≤ 512
   split
   ·exact joinLs_le _ _
   ·exact h.i1
  ·have : q.L.activate.on = true := e
   rw [activate_on] at this
   cases this
 ·refine ⟨h.k, (drop_on h.may).2, h.i0, h.i1, fun e => ?_, fun _ => rfl⟩
  have : q.L.drop.on = true := e
  rw [(drop_on h.may).1] at this
  cases this
theorem MoOk.sym {q : MoD} {n : Nat} (h : MoOk q n) (b : List UInt8) : MoOk (q.sym b).1 (n + 1) := by
 have h' := h.more (Nat.le_succ n)
 unfold MoD.sym
 repeat' split
 all_goals try exact h'
 rename_i h8 h24 hon hs hz _ D hd
 have hon' : q.L.on = true := by simpa using hon
 obtain ⟨a, D', b', c⟩ := h.on hon'
 rw [hd] at b'
 injection b' with b'
 subst b'
 have hl : (b.drop 8).length = D.Z := by
  have := c.zz
  rw [List.length_drop]
  omega
 unfold MoD.symD
 split
 ·split
  ·exact h'.fin hon' _
  ·exact ⟨h.k, h.may, h.i0, h.i1, fun _ => ⟨a, _, rfl, take_ok c hl⟩, fun e => by rw [hon'] at e; cases e⟩
 ·exact h'
theorem MoOk.pk {q : MoD} {n : Nat} (h : MoOk q n) (k : Nat) (m : List UInt8) (g : Int) : MoOk (q.pk k m g).1 (n + 1) := by
 unfold MoD.pk
 repeat' split
 ·exact h.more (Nat.le_succ n)
 ·exact (h.man m).more (Nat.le_succ n)
 ·exact h.sym m
 ·exact h.more (Nat.le_succ n)
end Go.Proofs.YtmncpgfdpcckpaaGreatDoor.Mo
namespace Go.Proofs.YtmncpgfdpcckpaaGreatDoor.Mo
open Go.RowKit
open VecM RdM Vc Sp Pc El Cd Dc
structure Bx (W : World) (g : Nat) (kv : Value) (cs : Array Value) (v0 v1 pd : Value) : Prop where
 k : W.cell? ⟨g, 0, none⟩ = some kv
 st : W.rangeAt g 1 cs.toList
 a : W.cell? ⟨g, 18, none⟩ = some v0
 b : W.cell? ⟨g, 19, none⟩ = some v1
 p : W.cell? ⟨g, 20, none⟩ = some pd
 th : W.there g 0 21
 lt : g < W.heap.size
def decIs (W : World) (Fd : Nat → Prop) (pd : Value) : Option DeD → Prop
 | none => pd = .pointer none
 | some D => ∃ gd, pd = .pointer (some ⟨gd, 0, none⟩) ∧ IsDec W Fd gd D.s D.K D.P D.Z D.M D.t
structure MoAt (g : Nat) (q : MoD) (W : World) (F : Nat → Prop) (Ak : Option Addr) (ck : Nat) (cs : Array Value) (A0 : Option Addr) (c0 : Nat) (A1 : Option Addr) (c1 : Nat) (pd : Value) (G Fd : Nat → Prop) : Prop where
 hg : F g
 bx : Bx W g (.slice Ak q.key.length ck) cs (.slice A0 q.i0.length c0) (.slice A1 q.i1.length c1) pd
 st : IsSt W G cs q.L
 k : RowP W G Ak q.key.length (bv q.key)
 r0 : RowP W G A0 q.i0.length (bv q.i0)
 r1 : RowP W G A1 q.i1.length (bv q.i1)
 d : decIs W Fd pd q.d
 hG : ∀ b, G b → F b ∧ b ≠ g ∧ ¬ Fd b ∧ b < W.heap.size
 hF : ∀ b, Fd b → F b ∧ b ≠ g ∧ b < W.heap.size
def IsMo (g : Nat) (q : MoD) (W : World) (F : Nat → Prop) : Prop := ∃ Ak ck cs A0 c0 A1 c1 pd G Fd, MoAt g q W F Ak ck cs A0 c0 A1 c1 pd G Fd
section
variable {W W' : World} {g : Nat} {kv v0 v1 pd : Value} {cs : Array Value} {q : MoD} {F Fd : Nat → Prop} {d : Option DeD}
theorem Bx.keep (h : Bx W g kv cs v0 v1 pd) (hk : W'.heap[g]? = W.heap[g]?) (hs : W.heap.size ≤ W'.heap.size) : Bx W' g kv cs v0 v1 pd :=
 ⟨(World.cell?_of_block (a := ⟨g, 0, none⟩) hk).trans h.k, fun j v hv => (World.cell?_of_block (a := ⟨g, 1 + j, none⟩) hk).trans (h.st j v hv), (World.cell?_of_block (a := ⟨g, 18, none⟩) hk).trans h.a, (World.cell?_of_block (a := ⟨g, 19, none⟩) hk).trans h.b, (World.cell?_of_block (a := ⟨g, 20, none⟩) hk).trans h.p,
  fun j hj => by
  have := h.th j hj
  rwa [World.cell?_of_block (w := W) (w' := W') (a := ⟨g, 0 + j, none⟩) hk, World.frozen?_of_block (w := W) (w' := W') (a := ⟨g, 0 + j, none⟩) hk], Nat.lt_of_lt_of_le h.lt hs⟩
theorem decIs.keep (h : decIs W Fd pd d) (hk : ∀ b, Fd b → b < W.heap.size → W'.heap[b]? = W.heap[b]?) : decIs W' Fd pd d := by
 cases d with
 | none => exact h
 | some D =>
  obtain ⟨gd, e, h⟩ := h
  exact ⟨gd, e, h.keep hk⟩
theorem IsMo.keep (h : IsMo g q W F) (hk : ∀ b, F b → b < W.heap.size → W'.heap[b]? = W.heap[b]?) (hs : W.heap.size ≤ W'.heap.size) : IsMo g q W' F := by
 obtain ⟨Ak, ck, cs, A0, c0, A1, c1, pd, G, Fd, H⟩ := h
 have kG : ∀ b, G b → b < W.heap.size → W'.heap[b]? = W.heap[b]? := fun b hb hl => hk b (H.hG b hb).1 hl
 exact ⟨Ak, ck, cs, A0, c0, A1, c1, pd, G, Fd, H.hg, H.bx.keep (hk g H.hg H.bx.lt) hs, H.st.keep hs kG, H.k.keep hs kG, H.r0.keep hs kG, H.r1.keep hs kG, H.d.keep (fun b hb hl => hk b (H.hF b hb).1 hl),
  fun b hb => by have := H.hG b hb; exact ⟨this.1, this.2.1, this.2.2.1, by omega⟩, fun b hb => by have := H.hF b hb; exact ⟨this.1, this.2.1, by omega⟩⟩
theorem IsMo.below (h : IsMo g q W F) (hb : Below W.heap.size W W') : IsMo g q W' F := h.keep (fun b _ hl => hb.block b hl) hb.size
theorem IsMo.more {F' : Nat → Prop} (h : IsMo g q W F) (hF' : ∀ b, F b → F' b) : IsMo g q W F' := by
 obtain ⟨Ak, ck, cs, A0, c0, A1, c1, pd, G, Fd, H⟩ := h
 exact ⟨Ak, ck, cs, A0, c0, A1, c1, pd, G, Fd, hF' g H.hg, H.bx, H.st, H.k, H.r0, H.r1, H.d, fun b hb => ⟨hF' b (H.hG b hb).1, (H.hG b hb).2⟩, fun b hb => ⟨hF' b (H.hF b hb).1, (H.hF b hb).2⟩⟩
end
theorem tape_setCells (b : Nat) : ∀ (vs : List Value) (o : Nat) (w : World), (w.setCells b o vs).tape = w.tape
 | [], _, _ => rfl
 | v :: r, o, w => (tape_setCells b r (o + 1) (w.setCell ⟨b, o, none⟩ v)).trans rfl
theorem size_setCells (b : Nat) : ∀ (vs : List Value) (o : Nat) (w : World), (w.setCells b o vs).heap.size = w.heap.size
 | [], _, _ => rfl
 | v :: r, o, w => (size_setCells b r (o + 1) (w.setCell ⟨b, o, none⟩ v)).trans (by simp)
theorem fr_setCells (w : World) (b o : Nat) (vs : List Value) {F : Nat → Prop} (hF : F b) : Fr w (w.setCells b o vs) F :=
 ⟨World.os_setCells w b o vs, tape_setCells b vs o w, World.output_setCells w b o vs, Nat.le_of_eq (size_setCells b vs o w).symm, fun _ hl hn => World.heap_setCells_other w b o vs hl fun e => hn (e ▸ hF)⟩
theorem fr_setCell (w : World) (b o : Nat) (v : Value) {F : Nat → Prop} (hF : F b) : Fr w (w.setCell ⟨b, o, none⟩ v) F := fr_setCells w b o [v] hF
section
variable {W : World} {g : Nat} {kv v0 v1 pd : Value} {cs ds : Array Value}
theorem Bx.thS (h : Bx W g kv cs v0 v1 pd) (hd : ds.size = 17) : W.there g 1 ds.size := fun j hj => by
 have := h.th (1 + j) (by omega)
 rwa [Nat.zero_add] at this
theorem Bx.setS (h : Bx W g kv cs v0 v1 pd) (hd : ds.size = 17) : Bx (W.setCells g 1 ds.toList) g kv ds v0 v1 pd := by
 have ht : W.there g 1 ds.toList.length := by
  have := h.thS hd
  simpa using this
 have hl : ds.toList.length = 17 := by simpa using hd
 exact ⟨(World.cell?_setCells_out g ds.toList 1 W ⟨g, 0, none⟩ (fun _ _ => .inl (by show 0 < 1; omega))).trans h.k, World.rangeAt_setCells_same W g 1 ds.toList ht,
  (World.cell?_setCells_out g ds.toList 1 W ⟨g, 18, none⟩ (fun _ _ => .inr (by show 1 + _ ≤ 18; omega))).trans h.a, (World.cell?_setCells_out g ds.toList 1 W ⟨g, 19, none⟩ (fun _ _ => .inr (by show 1 + _ ≤ 19; omega))).trans h.b, (World.cell?_setCells_out g ds.toList 1 W ⟨g, 20, none⟩ (fun _ _ => .inr (by show 1 + _ ≤ 20; omega))).trans h.p,
  World.there_setCells h.th g 1 ds.toList, by rw [size_setCells]; exact h.lt⟩
theorem Bx.set1 (h : Bx W g kv cs v0 v1 pd) (hc : cs.size = 17) {o : Nat} (u : Value) (ho : 18 ≤ o) (ho2 : o ≤ 20) : Bx (W.setCell ⟨g, o, none⟩ u) g kv cs (if o = 18 then u else v0) (if o = 19 then u else v1) (if o = 20 then u else pd) := by
 have hl : cs.toList.length = 17 := by simpa using hc
 have hin : ((W.setCells g o [u]).cell? ⟨g, o + 0, none⟩) = some u := World.cell?_setCells_in g [u] o W (fun j hj => by
  have := (h.th (o + j) (by simp at hj; omega)).1
  rwa [Nat.zero_add] at this) 0 (by simp)
 have hout : ∀ x : Nat, x ≠ o → (W.setCells g o [u]).cell? ⟨g, x, none⟩ = W.cell? ⟨g, x, none⟩ := fun x hx => World.cell?_setCells_out g [u] o W ⟨g, x, none⟩ (fun _ _ => by show x < o ∨ o + 1 ≤ x; omega)
 have pick : ∀ (x : Nat) (v : Value), W.cell? ⟨g, x, none⟩ = some v → (W.setCells g o [u]).cell? ⟨g, x, none⟩ = some (if o = x then u else v) := fun x v hv => by
  by_cases e : o = x
  ·subst e; rw [if_pos rfl]; exact hin
  ·rw [if_neg e, hout x fun e2 => e e2.symm]; exact hv
 exact ⟨(hout 0 (by omega)).trans h.k, World.rangeAt_setCells_apart h.st g o [u] (.inr (.inl (by omega))), pick 18 _ h.a, pick 19 _ h.b, pick 20 _ h.p, World.there_setCells h.th g o [u], by
  have := size_setCells g [u] o W
  have h2 := h.lt
  show g < (W.setCells g o [u]).heap.size
  omega⟩
end
theorem wpList_load_st {P : Program} {ops : Array Oper} {rest : List Oper} {o : Oper} {a : Act} {w : World} {Q : Exit → Act → World → Prop} (hgd : o.guard = none) (ty : TypeId) (x : Operand) (ho : o.op = .load ty x)
  (g : Nat) (hx : a.eval x = .pointer (some ⟨g, 1, none⟩)) (cs : Array Value) (d : TypeDesc) (hc : w.rangeAt g 1 cs.toList) (hu : P.underlying ty = some d) (hd : d.isRow = true) (hi : (P.info? ty).map (·.size) = some cs.size)
  (h : wpList P ops Q rest (a.put o.dst (.agg cs)) w) : wpList P ops Q (o :: rest) a w :=
 wpList_load_mid hgd ty x ho g 1 hx cs.toList d hc hu hd (by simpa using hi) (by simpa using h)
theorem yields_st {P : Program} {ops : Array Oper} {S : World → Prop} {o : Oper} {a : Act} (hw : Region.wanted o (yielded ops a.tmps) = true) (ty : TypeId) (x : Operand) (ho : o.op = .load ty x)
  (g : Nat) (hx : a.eval x = .pointer (some ⟨g, 1, none⟩)) (cs : Array Value) (d : TypeDesc) (hS : ∀ w, S w → w.rangeAt g 1 cs.toList) (hu : P.underlying ty = some d) (hd : d.isRow = true) (hi : (P.info? ty).map (·.size) = some cs.size) : YieldsIf P ops S o (.agg cs) a := by
 have h := yieldsIf_load_mid (P := P) (ops := ops) (S := S) (op := o) (a := a) hw ty x ho g 1 hx cs.toList d hS hu hd (by simpa using hi)
 rwa [show cs.toList.toArray = cs by simp] at h
theorem MoAt.dec {w W : World} {g : Nat} {q : MoD} {F : Nat → Prop} {Ak A0 A1 : Option Addr} {ck c0 c1 : Nat} {cs : Array Value} {pd : Value} {G Fd : Nat → Prop} {d : Option DeD} (H : MoAt g q w F Ak ck cs A0 c0 A1 c1 pd G Fd) (hf : Fr w W Fd)
  (hd : decIs W (fun b => Fd b ∨ (w.heap.size ≤ b ∧ b < W.heap.size)) pd d) : MoAt g { q with d := d } W (fun b => F b ∨ (w.heap.size ≤ b ∧ b < W.heap.size)) Ak ck cs A0 c0 A1 c1 pd G (fun b => Fd b ∨ (w.heap.size ≤ b ∧ b < W.heap.size)) := by
 have hs := hf.size
 have hlt := H.bx.lt
 have kG : ∀ b, G b → b < w.heap.size → W.heap[b]? = w.heap[b]? := fun b hb hl => hf.block b hl (H.hG b hb).2.2.1
 refine ⟨.inl H.hg, H.bx.keep (hf.block g hlt fun e => (H.hF g e).2.1 rfl) hs, H.st.keep hs kG, H.k.keep hs kG, H.r0.keep hs kG, H.r1.keep hs kG, hd, fun b hb => ?_, fun b hb => ?_⟩
 ·have := H.hG b hb
  exact ⟨.inl this.1, this.2.1, (by rintro (e | e); exact this.2.2.1 e; omega), by omega⟩
 ·rcases hb with hb | hb
  ·have := H.hF b hb; exact ⟨.inl this.1, this.2.1, by omega⟩
  ·exact ⟨.inr hb, by omega, hb.2⟩
theorem MoAt.new {w W W' : World} {g B : Nat} {q : MoD} {F : Nat → Prop} {Ak A0 A1 A0' A1' : Option Addr} {ck c0 c1 c0' c1' : Nat} {cs ds : Array Value} {pd pd' : Value} {G Fd Fd' : Nat → Prop} {d' : Option DeD} {K : LSt} {j0 j1 : List UInt8} (H : MoAt g q w F Ak ck cs A0 c0 A1 c1 pd G Fd)
  (hf : Fr w W Fd) (hB : w.heap.size ≤ B) (hBW : B ≤ W.heap.size) (S : IsSt W (fun b => w.heap.size ≤ b ∧ b < B) ds K)
  (r0 : (A0' = A0 ∧ j0 = q.i0) ∨ RowP W (fun b => w.heap.size ≤ b ∧ b < B) A0' j0.length (bv j0)) (r1 : (A1' = A1 ∧ j1 = q.i1) ∨ RowP W (fun b => w.heap.size ≤ b ∧ b < B) A1' j1.length (bv j1))
  (hd : decIs W Fd' pd' d') (hFd : ∀ b, Fd' b → B ≤ b ∧ b < W.heap.size) (hW : Fr W W' (fun b => b = g)) (hb : Bx W' g (.slice Ak q.key.length ck) ds (.slice A0' j0.length c0') (.slice A1' j1.length c1') pd') :
  IsMo g ⟨q.key, K, j0, j1, d'⟩ W' (fun b => F b ∨ (w.heap.size ≤ b ∧ b < W'.heap.size)) ∧ Fr w W' F := by
 have hs := hf.size
 have hs2 := hW.size
 have hlt := H.bx.lt
 have kO : ∀ b, G b → b < w.heap.size → W.heap[b]? = w.heap[b]? := fun b hb hl => hf.block b hl (H.hG b hb).2.2.1
 have hi : ∀ b, b < W.heap.size → G b → (G b ∨ (w.heap.size ≤ b ∧ b < B)) := fun b _ hb => .inl hb
 have hj : ∀ b, b < W.heap.size → (w.heap.size ≤ b ∧ b < B) → (G b ∨ (w.heap.size ≤ b ∧ b < B)) := fun b _ hb => .inr hb
 have hG : ∀ b, (G b ∨ (w.heap.size ≤ b ∧ b < B)) → b ≠ g ∧ ¬ Fd' b ∧ b < W.heap.size := by
  rintro b (hb | hb)
  ·have := H.hG b hb; exact ⟨this.2.1, fun e => by have := hFd b e; omega, by omega⟩
  ·exact ⟨by omega, fun e => by have := hFd b e; omega, by omega⟩
 have kG : ∀ b, (G b ∨ (w.heap.size ≤ b ∧ b < B)) → b < W.heap.size → W'.heap[b]? = W.heap[b]? := fun b hb hl => hW.block b hl (hG b hb).1
 have q0 : RowP W (fun b => G b ∨ (w.heap.size ≤ b ∧ b < B)) A0' j0.length (bv j0) := by
  rcases r0 with ⟨rfl, rfl⟩ | r
  ·exact (H.r0.keep hs kO).imp hi
  ·exact r.imp hj
 have q1 : RowP W (fun b => G b ∨ (w.heap.size ≤ b ∧ b < B)) A1' j1.length (bv j1) := by
  rcases r1 with ⟨rfl, rfl⟩ | r
  ·exact (H.r1.keep hs kO).imp hi
  ·exact r.imp hj
 refine ⟨⟨Ak, ck, ds, A0', c0', A1', c1', pd', fun b => G b ∨ (w.heap.size ≤ b ∧ b < B), Fd', .inl H.hg, hb, (S.imp hj).keep hs2 kG, ((H.k.keep hs kO).imp hi).keep hs2 kG, q0.keep hs2 kG, q1.keep hs2 kG, hd.keep fun b hb hl => hW.block b hl (by have := hFd b hb; omega), fun b hb => ⟨?_, (hG b hb).1, (hG b hb).2.1, by have := (hG b hb).2.2; omega⟩, fun b hb => by have := hFd b hb; exact ⟨.inr ⟨by omega, by omega⟩, by omega, by omega⟩⟩,
  (hf.more fun b _ hb => (H.hF b hb).1).trans (hW.more (F' := F) fun b _ e => e ▸ H.hg) (fun _ _ h => h)⟩
 rcases hb with hb | hb
 ·exact .inl (H.hG b hb).1
 ·exact .inr ⟨hb.1, by omega⟩
def MoTo (g : Nat) (q : MoD) (r : Int) (F : Nat → Prop) (w : World) (e : Ending) (w' : World) : Prop :=
 e = .returned (.int .i64 r) ∧ Hid (IsMo g q w' (fun b => F b ∨ (w.heap.size ≤ b ∧ b < w'.heap.size))) ∧ Hid (Fr w w' F)
theorem MoTo.same {g : Nat} {q : MoD} {r : Int} {F : Nat → Prop} {w w' : World} (h : IsMo g q w F) (hb : Below w.heap.size w w') : MoTo g q r F w (.returned (.int .i64 r)) w' :=
 ⟨rfl, Lib.hid ((h.below hb).more fun _ hb => .inl hb), Lib.hid (Fr.of_below hb)⟩
theorem Bx.now {W W' : World} {g : Nat} {kv v0 v1 pd : Value} {cs : Array Value} {P : Nat → Prop} {L : LSt} (h : Bx W g kv cs v0 v1 pd) (hs : IsSt W' P cs L) :
  W.cell? ⟨g, 11, none⟩ = some (.bool L.on) ∧ ∃ A c, W.cell? ⟨g, 12, none⟩ = some (.int .u32 (L.m.s : Int)) ∧ W.cell? ⟨g, 13, none⟩ = some (.int .u32 (L.m.v : Int)) ∧ W.cell? ⟨g, 14, none⟩ = some (.int .i64 L.m.l) ∧ W.cell? ⟨g, 15, none⟩ = some (.int .i64 L.m.z) ∧ W.cell? ⟨g, 16, none⟩ = some (.int .i64 L.m.p) ∧ W.cell? ⟨g, 17, none⟩ = some (.slice A L.m.h.length c) := by
 obtain ⟨A0, c0, A1, c1, A, c, rfl, _, _, _⟩ := hs
 exact ⟨h.st 10 _ rfl, A, c, h.st 11 _ rfl, h.st 12 _ rfl, h.st 13 _ rfl, h.st 14 _ rfl, h.st 15 _ rfl, h.st 16 _ rfl⟩
theorem MoAt.below {w W : World} {g : Nat} {q : MoD} {F : Nat → Prop} {Ak A0 A1 : Option Addr} {ck c0 c1 : Nat} {cs : Array Value} {pd : Value} {G Fd : Nat → Prop} (H : MoAt g q w F Ak ck cs A0 c0 A1 c1 pd G Fd) (hb : Below w.heap.size w W) : MoAt g q W F Ak ck cs A0 c0 A1 c1 pd G Fd := by
 have hs := hb.size
 exact ⟨H.hg, H.bx.keep (hb.block g H.bx.lt) hs, H.st.below hb, H.k.below hb, H.r0.below hb, H.r1.below hb, H.d.keep fun b _ hl => hb.block b hl, fun b hb => by have := H.hG b hb; exact ⟨this.1, this.2.1, this.2.2.1, by omega⟩, fun b hb => by have := H.hF b hb; exact ⟨this.1, this.2.1, by omega⟩⟩
theorem MoTo.trans {g : Nat} {q : MoD} {r : Int} {F F1 : Nat → Prop} {w w1 w' : World} {e : Ending} (hf : Fr w w1 F) (hF : ∀ b, F1 b → F b ∨ (w.heap.size ≤ b ∧ b < w1.heap.size)) (h : MoTo g q r F1 w1 e w') : MoTo g q r F w e w' := by
 obtain ⟨he, hm, h2⟩ := h
 have z1 := hf.size
 have z2 := h2.out.size
 refine ⟨he, Lib.hid (hm.out.more fun b hb => ?_), Lib.hid (hf.trans h2.out fun b hl hb => ?_)⟩
 ·rcases hb with hb | hb
  ·rcases hF b hb with h | h
   ·exact .inl h
   ·exact .inr ⟨h.1, by omega⟩
  ·exact .inr ⟨by omega, hb.2⟩
 ·rcases hF b hb with h | h
  ·exact h
  ·omega
def FrG (w : World) (g : Nat) (W : World) : Prop := Fr w W (fun b => b = g)
theorem FrG.below {w W W' : World} {g : Nat} (h : FrG w g W) (hb : Below W.heap.size W W') : FrG w g W' := Fr.trans h (Fr.of_below (F := fun b => b = g) hb) (fun _ _ e => e)
theorem FrG.cells {w W : World} {g : Nat} (h : FrG w g W) (o : Nat) (vs : List Value) : FrG w g (W.setCells g o vs) := Fr.trans h (fr_setCells W g o vs (F := fun b => b = g) rfl) (fun _ _ e => e)
theorem FrG.cell {w W : World} {g : Nat} (h : FrG w g W) (o : Nat) (v : Value) : FrG w g (W.setCell ⟨g, o, none⟩ v) := Fr.trans h (fr_setCell W g o v (F := fun b => b = g) rfl) (fun _ _ e => e)
theorem FrG.row {w W : World} {g b : Nat} {cs : Array Value} {t : TypeId} {fr : Nat × Nat} (h : FrG w g W) (hx : w.heap[b]? = some (.cells cs t fr)) (hn : b ≠ g) : W.heap[b]? = some (.cells cs t fr) := (Fr.block h b (Array.getElem?_eq_some_iff.1 hx).1 hn).trans hx
def FrP (w : World) (F : Nat → Prop) (W : World) : Prop := Fr w W F
end Go.Proofs.YtmncpgfdpcckpaaGreatDoor.Mo
