/- decode's Says, Needs, Taken, Take: by contract. -/
import Derived.Test.YtmncpgfdpcckpaaGreatDoorZDQN
import Derived.Test.YtmncpgfdpcckpaaGreatDoorZFQN
import Derived.Test.YtmncpgfdpcckpaaGreatDoorZQQN
import Derived.Test.YtmncpgfdpcckpaaGreatDoorDcOnceQN
import Derived.Test.YtmncpgfdpcckpaaGreatDoorZKQN
set_option maxRecDepth 100000
namespace Go.Proofs.YtmncpgfdpcckpaaGreatDoor.Dc
open Go.RowKit
open VecM RdM Vc Sp Pc El
def decC (s K P Z gm t : Nat) (d : Int) (v : Value) : Array Value := #[.int .u32 (s : Int), .int .i64 (K : Int), .int .i64 (P : Int), .int .i64 (Z : Int), .pointer (some ⟨gm, 0, none⟩), .int .i64 (t : Int), .int .u32 d, .int .i32 0, .int .u32 0, v]
structure PcsIn (W : World) (F : Nat → Prop) (gl K : Nat) (es : List BRow) : Prop where
 len : es.length = K
 fl : F gl
 row : ∃ cs, W.heap[gl]? = some (.cells cs 22 (0, 0)) ∧ ∀ (i : Nat) (r : BRow), es[i]? = some r → cs[i]? = some r.val
 at_ : ∀ r ∈ es, r.n = r.l.length ∧ DatAt W r.A r.c r.l ∧ ∃ d, r.A = some ⟨d, 0, none⟩ ∧ F d
theorem PcsIn.keep {W W' : World} {F : Nat → Prop} {gl K : Nat} {es : List BRow} (h : PcsIn W F gl K es) (hk : ∀ b, F b → b < W.heap.size → W'.heap[b]? = W.heap[b]?) : PcsIn W' F gl K es := by
 obtain ⟨cs, h1, h2⟩ := h.row
 refine ⟨h.len, h.fl, ⟨cs, (hk gl h.fl (Array.getElem?_eq_some_iff.1 h1).1).trans h1, h2⟩, fun r hr => ?_⟩
 obtain ⟨a1, a2, d, a3, a4⟩ := h.at_ r hr
 refine ⟨a1, a2.keep fun b he => ?_, d, a3, a4⟩
 have hl := a2.lt he
 rw [a3] at he
 obtain rfl : d = b := Option.some.inj he
 exact hk d a4 hl
theorem PcsIn.rows {W : World} {F : Nat → Prop} {gl K : Nat} {es : List BRow} (h : PcsIn W F gl K es) : Rows2 W W.heap.size (some ⟨gl, 0, none⟩) K es ∧ ∀ r ∈ es, r.n ≤ r.c ∧ r.c ≤ 9223372036854775807 := by
 obtain ⟨cs, h1, h2⟩ := h.row
 refine ⟨⟨⟨by simpa using h.len, fun _ => ⟨gl, 0, rfl, (Array.getElem?_eq_some_iff.1 h1).1, fun j u hu => ?_⟩⟩, fun r hr => ?_⟩, fun r hr => ?_⟩
 ·rw [Nat.zero_add, cell_of_row W gl j _ _ _ h1]
  rw [List.getElem?_map] at hu
  cases hx : es[j]? with
  | none => rw [hx] at hu; cases hu
  | some r => rw [hx] at hu; injection hu with hu; rw [← hu]; exact h2 j r hx
 ·obtain ⟨a1, a2, _⟩ := h.at_ r hr
  have := a2.row
  rw [← a1] at this
  exact this
 ·obtain ⟨a1, a2, _⟩ := h.at_ r hr
  have := own_cap a2
  rw [← a1] at this
  exact this
def IsDec (W : World) (F : Nat → Prop) (gd s K P Z : Nat) (M : Mx) (t : Nat) : Prop :=
 F gd ∧ ∃ gm FM, (∀ b, FM b → F b ∧ b ≠ gd) ∧ IsMat W FM gm (K + P) Z M ∧
  (W.heap[gd]? = some (.cells (decC s K P Z gm t 0 (.slice none 0 0)) 104 (0, 0)) ∨
   (rankM M = K + P ∧ ∃ gl c es, W.heap[gd]? = some (.cells (decC s K P Z gm t 1 (.slice (some ⟨gl, 0, none⟩) K c)) 104 (0, 0)) ∧ PcsIn W (fun b => F b ∧ b ≠ gd) gl K es ∧ es.map (·.l) = (solM M).take K ∧ K ≤ c ∧ c ≤ 9223372036854775807))
theorem IsDec.lt {W : World} {F : Nat → Prop} {gd s K P Z t : Nat} {M : Mx} (h : IsDec W F gd s K P Z M t) : gd < W.heap.size := by
 obtain ⟨_, gm, FM, _, _, hx⟩ := h
 rcases hx with h | ⟨_, gl, c, es, h, _⟩
 ·exact (Array.getElem?_eq_some_iff.1 h).1
 ·exact (Array.getElem?_eq_some_iff.1 h).1
theorem IsDec.keep {W W' : World} {F : Nat → Prop} {gd s K P Z t : Nat} {M : Mx} (h : IsDec W F gd s K P Z M t) (hk : ∀ b, F b → b < W.heap.size → W'.heap[b]? = W.heap[b]?) : IsDec W' F gd s K P Z M t := by
 have hl := h.lt
 obtain ⟨h0, gm, FM, h1, h2, hx⟩ := h
 refine ⟨h0, gm, FM, h1, h2.keep fun b hb hlt => hk b (h1 b hb).1 hlt, ?_⟩
 rcases hx with h | ⟨hr, gl, c, es, h, h3, h4⟩
 ·exact .inl ((hk gd h0 hl).trans h)
 ·exact .inr ⟨hr, gl, c, es, (hk gd h0 hl).trans h, h3.keep fun b hb hlt => hk b hb.1 hlt, h4⟩
theorem IsDec.below {W W' : World} {F : Nat → Prop} {gd s K P Z t : Nat} {M : Mx} (h : IsDec W F gd s K P Z M t) (hb : Below W.heap.size W W') : IsDec W' F gd s K P Z M t := h.keep fun b _ hl => hb.block b hl
theorem IsDec.more {W : World} {F F' : Nat → Prop} {gd s K P Z t : Nat} {M : Mx} (h : IsDec W F gd s K P Z M t) (hF : ∀ b, F b → F' b) : IsDec W F' gd s K P Z M t := by
 obtain ⟨h0, gm, FM, h1, h2, hx⟩ := h
 refine ⟨hF gd h0, gm, FM, fun b hb => ⟨hF b (h1 b hb).1, (h1 b hb).2⟩, h2, ?_⟩
 rcases hx with h | ⟨hr, gl, c, es, h, h3, h4⟩
 ·exact .inl h
 ·exact .inr ⟨hr, gl, c, es, h, ⟨h3.len, ⟨hF gl h3.fl.1, h3.fl.2⟩, h3.row, fun r hr => by
   obtain ⟨a1, a2, d, a3, a4⟩ := h3.at_ r hr
   exact ⟨a1, a2, d, a3, hF d a4.1, a4.2⟩⟩, h4⟩
structure DS (FM : Nat → Prop) (gd : Nat) (w W : World) : Prop where
 f : Fr w W FM
 n : ¬ FM gd
theorem DS.size {FM : Nat → Prop} {gd : Nat} {w W : World} (h : DS FM gd w W) : w.heap.size ≤ W.heap.size := h.f.size
theorem DS.refl (FM : Nat → Prop) (gd : Nat) (w : World) (h : ¬ FM gd) : DS FM gd w w := ⟨Fr.refl _ _, h⟩
theorem DS.below {FM : Nat → Prop} {gd : Nat} {w W W' : World} (h : DS FM gd w W) (hb : Below W.heap.size W W') : DS FM gd w W' := ⟨h.f.trans (Fr.of_below (F := FM) hb) (fun _ _ h => h), h.n⟩
theorem DS.fr {FM : Nat → Prop} {gd : Nat} {w W W' : World} (h : DS FM gd w W) (hf : Fr W W' FM) : DS FM gd w W' := ⟨h.f.trans hf (fun _ _ h => h), h.n⟩
theorem dcell_at {w : World} {g p : Nat} {cs : Array Value} {T : TypeId} {u : Value} (h : w.heap[g]? = some (.cells cs T (0, 0))) (hp : cs[p]? = some u) : w.cell? ⟨g, p, none⟩ = some u := by
 rw [cell_of_row w g _ _ T (0, 0) h]; exact hp
theorem dcells {W : World} {gd s kk P Z gm t : Nat} {d : Int} {pv : Value} (h : W.heap[gd]? = some (.cells (decC s kk P Z gm t d pv) 104 (0, 0))) : (W.cell? ⟨gd, 0, none⟩ = some (.int .u32 (s : Int)) ∧ W.cell? ⟨gd, 1, none⟩ = some (.int .i64 (kk : Int)) ∧ W.cell? ⟨gd, 2, none⟩ = some (.int .i64 (P : Int)) ∧ W.cell? ⟨gd, 3, none⟩ = some (.int .i64 (Z : Int))) ∧ W.cell? ⟨gd, 4, none⟩ = some (.pointer (some ⟨gm, 0, none⟩)) :=
 ⟨⟨dcell_at h rfl, dcell_at h rfl, dcell_at h rfl, dcell_at h rfl⟩, dcell_at h rfl⟩
set_option maxHeartbeats 1600000 in
theorem needs_any (F : Nat → Prop) (gd s kk P Z t : Nat) (M : Mx) (w : World) (h : IsDec w F gd s kk P Z M t) (hi : Inv (kk + P) Z M) (hK : 1 ≤ kk ∧ kk ≤ 64) (hP : P ≤ 16) (hZ : 1 ≤ Z ∧ Z ≤ 16) :
  Calls Tryz.prog 47 #[.pointer (some ⟨gd, 0, none⟩)] w fun e w' => e = .returned (.int .i64 ((kk : Int) + (P : Int) - (rankM M : Int))) ∧ Hid (Below w.heap.size w w') := by
 obtain ⟨hgd, gm, FM, hFM, hm, hx⟩ := h
 obtain ⟨d, pv, hc⟩ : ∃ (d : Int) (pv : Value), w.heap[gd]? = some (.cells (decC s kk P Z gm t d pv) 104 (0, 0)) := by
  rcases hx with h | ⟨_, gl, c, es, h, _⟩
  ·exact ⟨0, _, h⟩
  ·exact ⟨1, _, h⟩
 have HM := Lib.hid hm
 have HK := Lib.hid hK
 have HP := Lib.hid hP
 have hl := (Array.getElem?_eq_some_iff.1 hc).1
 have HFX : Hid (∀ W, Below w.heap.size w W → (W.cell? ⟨gd, 0, none⟩ = some (.int .u32 (s : Int)) ∧ W.cell? ⟨gd, 1, none⟩ = some (.int .i64 (kk : Int)) ∧ W.cell? ⟨gd, 2, none⟩ = some (.int .i64 (P : Int)) ∧ W.cell? ⟨gd, 3, none⟩ = some (.int .i64 (Z : Int))) ∧ W.cell? ⟨gd, 4, none⟩ = some (.pointer (some ⟨gm, 0, none⟩))) := Lib.hid fun W hW => dcells ((hW.block gd hl).trans hc)
 have HMAY : Hid ((if mayB (kk : Int) (P : Int) (Z : Int) then (kk : Int) + (P : Int) else 0) = (kk : Int) + (P : Int)) := Lib.hid (by rw [if_pos ((mayB_iff _ _ _).2 ⟨by omega, by omega, by omega⟩)])
 have hrk := rank_le hi
 have hw1 : IntKind.i64.wrap ((kk : Int) + (P : Int) - (rankM M : Int)) = (kk : Int) + (P : Int) - (rankM M : Int) := by rw [IntKind.wrap_i64]; omega
 clear hgd hFM hm hx hc hK hP hZ hl hi
 go_enter Tryz.func47, Tryz.ntmps47
 go_upto_region 3 with fail
 refine wp_region_noPanic ?_
 refine wp_region_held_drew (S := (fun W => Below (w.heap.size) w W)) (by kernel_rfl) (Below.refl _ _).drew (fun hH0 => ?_)
 have hH0 : Below (w.heap.size) w w.drew := hH0
 generalize w.drew = wd2000 at *
 refine wpAnyH_take (i := 0) (oi := { dst := some 5, op := Op.move (Operand.tmp 0), type := 55, pos := _, after := _, guard := none }) (v := ?tkv2001) rfl (by kernel_rfl) (by kernel_rfl) (by kernel_rfl) (fun _ _ _ h => h) (Or.inl ⟨by rfl, ?tky2001⟩) hH0 ?tkr2001
 case tky2001 => (intro w' hSw; clear hSw; go_simp; try with_reducible rfl)
 try simp only [Act.put, zqa, zqb, zqc]
 refine wpAnyH_take (i := 1) (oi := { dst := some 6, op := Op.nilCheck (Operand.tmp 5), type := 0, pos := _, after := _, guard := none }) (v := ?tkv2002) rfl (by kernel_rfl) (by kernel_rfl) (by kernel_rfl) (fun _ _ _ h => h) (Or.inl ⟨by rfl, ?tky2002⟩) hH0 ?tkr2002
 case tky2002 => (intro w' hSw; clear hSw; go_simp; try with_reducible rfl)
 try simp only [Act.put, zqa, zqb, zqc]
 refine wpAnyH_take (i := 2) (oi := { dst := some 7, op := Op.fieldAddr 104 (Operand.tmp 6) 0, type := 0, pos := _, after := _, guard := none }) (v := ?tkv2003) rfl (by kernel_rfl) (by kernel_rfl) (by kernel_rfl) (fun _ _ _ h => h) (Or.inl ⟨by rfl, ?tky2003⟩) hH0 ?tkr2003
 case tky2003 => (intro w' hSw; clear hSw; go_simp; try with_reducible rfl)
 try simp only [Act.put, zqa, zqb, zqc]
 refine wpAnyH_take (i := 3) (oi := { dst := some 8, op := Op.load 76 (Operand.tmp 7), type := 76, pos := _, after := _, guard := none }) (v := ?tkv2004) rfl (by kernel_rfl) (by kernel_rfl) (by kernel_rfl) (fun _ _ _ h => h) (Or.inl ⟨by rfl, ?tky2004⟩) hH0 ?tkr2004
 case tky2004 => (intro w' hSw; have z0 := HFX.out _ hSw; clear hSw; go_simp; try with_reducible rfl)
 try simp only [Act.put, zqa, zqb, zqc]
 refine wpAnyH_take (i := 5) (oi := { dst := some 10, op := Op.move (Operand.tmp 0), type := 55, pos := _, after := _, guard := none }) (v := ?tkv2005) rfl (by kernel_rfl) (by kernel_rfl) (by kernel_rfl) (fun _ _ _ h => h) (Or.inl ⟨by rfl, ?tky2005⟩) hH0 ?tkr2005
 case tky2005 => (intro w' hSw; clear hSw; go_simp; try with_reducible rfl)
 try simp only [Act.put, zqa, zqb, zqc]
 refine wpAnyH_take (i := 6) (oi := { dst := some 11, op := Op.nilCheck (Operand.tmp 10), type := 0, pos := _, after := _, guard := none }) (v := ?tkv2006) rfl (by kernel_rfl) (by kernel_rfl) (by kernel_rfl) (fun _ _ _ h => h) (Or.inl ⟨by rfl, ?tky2006⟩) hH0 ?tkr2006
 case tky2006 => (intro w' hSw; clear hSw; go_simp; try with_reducible rfl)
 try simp only [Act.put, zqa, zqb, zqc]
 refine wpAnyH_take (i := 7) (oi := { dst := some 12, op := Op.fieldAddr 104 (Operand.tmp 11) 1, type := 0, pos := _, after := _, guard := none }) (v := ?tkv2007) rfl (by kernel_rfl) (by kernel_rfl) (by kernel_rfl) (fun _ _ _ h => h) (Or.inl ⟨by rfl, ?tky2007⟩) hH0 ?tkr2007
 case tky2007 => (intro w' hSw; clear hSw; go_simp; try with_reducible rfl)
 try simp only [Act.put, zqa, zqb, zqc]
 refine wpAnyH_take (i := 8) (oi := { dst := some 13, op := Op.load 87 (Operand.tmp 12), type := 87, pos := _, after := _, guard := none }) (v := ?tkv2008) rfl (by kernel_rfl) (by kernel_rfl) (by kernel_rfl) (fun _ _ _ h => h) (Or.inl ⟨by rfl, ?tky2008⟩) hH0 ?tkr2008
 case tky2008 => (intro w' hSw; have z0 := HFX.out _ hSw; clear hSw; go_simp; try with_reducible rfl)
 try simp only [Act.put, zqa, zqb, zqc]
 refine wpAnyH_ready (rs := [4]) (by kernel_rfl) (by simp) ?_
 refine AllReadyH.cons (o := { dst := some 9, op := Op.call { callee := Callee.value (Operand.func 69), args := #[Operand.tmp 8], argTypes := #[76] }, type := 3, pos := _, after := _, guard := none }) rfl (fun K hK => ?_) AllReadyH.nil
 go_simp
 refine (pieces_any s (kk : Int) (P : Int) (Z : Int) wd2000 (by have := HK.out; omega) (by have := HP.out; omega)).mono ?_
 rw [HMAY.out]
 rintro e' wn2009 ⟨rfl, hb2009'⟩
 have hb2009 := hb2009'.out
 clear hb2009'
 go_simp
 have hS2009 : Below (w.heap.size) w wn2009 := (hH0).trans (hb2009.mono (hH0).size)
 refine hK.out _ _ hS2009 (fun hH2009 => ?_)
 have hH2009 : Below (w.heap.size) w wn2009 := hH2009
 clear hK K hS2009
 try simp only [Act.put, zqa, zqb, zqc]
 refine wpAnyH_ready (rs := [9]) (by kernel_rfl) (by simp) ?_
 refine AllReadyH.cons (o := { dst := some 14, op := Op.call { callee := Callee.value (Operand.func 75), args := #[Operand.tmp 13], argTypes := #[87] }, type := 3, pos := _, after := _, guard := none }) rfl (fun K hK => ?_) AllReadyH.nil
 go_simp
 refine (rankI (HM.out.below (hH2009))).mono ?_
 rintro e' wx2010 ⟨rfl, rfl⟩
 go_simp
 have hS2010 : Below (w.heap.size) w wn2009 := hH2009
 refine hK.out _ _ hS2010 (fun hH2010 => ?_)
 have hH2010 : Below (w.heap.size) w wn2009 := hH2010
 clear hK K hS2010
 try simp only [Act.put, zqa, zqb, zqc]
 refine wpAnyH_take (i := 10) (oi := { dst := some 15, op := Op.binOp BinOp.sub 3 (Operand.tmp 9) (Operand.tmp 14) 3, type := 3, pos := _, after := _, guard := none }) (v := ?tkv2011) rfl (by kernel_rfl) (by kernel_rfl) (by kernel_rfl) (fun _ _ _ h => h) (Or.inl ⟨by rfl, ?tky2011⟩) hH2010 ?tkr2011
 case tky2011 => (intro w' hSw; clear hSw; go_simp; try with_reducible rfl)
 try simp only [Act.put, zqa, zqb, zqc]
 refine wpAnyH_take (i := 11) (oi := { dst := some 2, op := Op.assign (Operand.tmp 15), type := 3, pos := _, after := _, guard := none }) (v := ?tkv2012) rfl (by kernel_rfl) (by kernel_rfl) (by kernel_rfl) (fun _ _ _ h => h) (Or.inl ⟨by rfl, ?tky2012⟩) hH2010 ?tkr2012
 case tky2012 => (intro w' hSw; clear hSw; go_simp; try with_reducible rfl)
 try simp only [Act.put, zqa, zqb, zqc]
 refine wpAnyH_done (by kernel_rfl) ?_ _
 refine NoPanic.normal ?_
 have HE := Lib.hid (hH2010)
 go_wp2_with fail
 go_ret
 exact ⟨rfl, HE⟩
def TakeOk (F : Nat → Prop) (gd s K P Z : Nat) (R : Mx × Bool) (t : Nat) (w : World) (e : Ending) (w' : World) : Prop :=
 e = .returned (.bool R.2) ∧ Hid (IsDec w' (fun b => F b ∨ (w.heap.size ≤ b ∧ b < w'.heap.size)) gd s K P Z R.1 (t + if R.2 then 1 else 0)) ∧ Hid (Fr w w' F)
theorem full_says {n z : Nat} {M : Mx} (h : Inv n z M) (hf : rankM M = n) {X : Nat} (hX : X < 2 ^ n) (l : List UInt8) : (redM M X l n).1 = 0 := by
 apply Nat.eq_of_testBit_eq
 intro j
 rw [Nat.zero_testBit]
 by_cases hj : j < n
 ·obtain ⟨r, hr⟩ := (rank_full h).1 hf j hj
  exact redM_clear h X l n j r hj hr
 ·exact Nat.testBit_lt_two_pow (Nat.lt_of_lt_of_le (redM_ltI h hX l n) (Nat.pow_le_pow_right (by decide) (by omega)))
set_option maxHeartbeats 1600000 in
theorem take_old (F : Nat → Prop) (gd s kk P Z t id c : Nat) (A : Option Addr) (l : List UInt8) (M : Mx) (w : World) (h : IsDec w F gd s kk P Z M t) (hi : Inv (kk + P) Z M) (hs : s < 4294967296) (hid : id < 4294967296) (hK : 1 ≤ kk ∧ kk ≤ 64) (hP : P ≤ 16) (hZ : 1 ≤ Z ∧ Z ≤ 16) (hl : l.length = Z) (hr : Row w w.heap.size A Z (bv l)) (ht : DTab w) (hze : (redM M (spX s kk P id) l (kk + P)).1 = 0) :
  Calls Tryz.prog 46 #[.pointer (some ⟨gd, 0, none⟩), .int .u32 (id : Int), .slice A Z c] w fun e w' => e = .returned (.bool false) ∧ Hid (Below w.heap.size w w') := by
 obtain ⟨hgd, gm, FM, hFM, hm, hx⟩ := h
 obtain ⟨d, pv, hc⟩ : ∃ (d : Int) (pv : Value), w.heap[gd]? = some (.cells (decC s kk P Z gm t d pv) 104 (0, 0)) := by
  rcases hx with h | ⟨_, gl, c, es, h, _⟩
  ·exact ⟨0, _, h⟩
  ·exact ⟨1, _, h⟩
 have HM := Lib.hid hm
 have HS := Lib.hid hs
 have HID := Lib.hid hid
 have HK := Lib.hid hK
 have HP := Lib.hid hP
 have HZ := Lib.hid hZ
 have HI := Lib.hid hi
 have HLZ := Lib.hid hl
 have HRW : Hid (∀ W, Below w.heap.size w W → Row W W.heap.size A l.length (bv l)) := Lib.hid fun W hW => by rw [hl]; exact (hr.below hW).more hW.size
 have HT := Lib.hid ht
 have HZE := Lib.hid hze
 have hll := (Array.getElem?_eq_some_iff.1 hc).1
 have HFX : Hid (∀ W, Below w.heap.size w W → (W.cell? ⟨gd, 0, none⟩ = some (.int .u32 (s : Int)) ∧ W.cell? ⟨gd, 1, none⟩ = some (.int .i64 (kk : Int)) ∧ W.cell? ⟨gd, 2, none⟩ = some (.int .i64 (P : Int)) ∧ W.cell? ⟨gd, 3, none⟩ = some (.int .i64 (Z : Int))) ∧ W.cell? ⟨gd, 4, none⟩ = some (.pointer (some ⟨gm, 0, none⟩))) := Lib.hid fun W hW => dcells ((hW.block gd hll).trans hc)
 clear hgd hFM hm hx hc hs hid hK hP hZ hll hi hl hr ht hze
 go_enter Tryz.func46, Tryz.ntmps46
 go_upto_region 1 with fail
 refine wp_region_noPanic ?_
 refine wp_region_held_drew (S := (fun W => Below (w.heap.size) w W)) (by kernel_rfl) (Below.refl _ _).drew (fun hH0 => ?_)
 have hH0 : Below (w.heap.size) w w.drew := hH0
 generalize w.drew = wd4000 at *
 refine wpAnyH_take (i := 0) (oi := { dst := some 7, op := Op.move (Operand.tmp 0), type := 55, pos := _, after := _, guard := none }) (v := ?tkv4001) rfl (by kernel_rfl) (by kernel_rfl) (by kernel_rfl) (fun _ _ _ h => h) (Or.inl ⟨by rfl, ?tky4001⟩) hH0 ?tkr4001
 case tky4001 => (intro w' hSw; clear hSw; go_simp; try with_reducible rfl)
 try simp only [Act.put, zqa, zqb, zqc]
 refine wpAnyH_take (i := 1) (oi := { dst := some 8, op := Op.binOp BinOp.eql 55 (Operand.tmp 7) (Operand.const (Value.pointer none)) 55, type := 4, pos := _, after := _, guard := none }) (v := ?tkv4002) rfl (by kernel_rfl) (by kernel_rfl) (by kernel_rfl) (fun _ _ _ h => h) (Or.inl ⟨by rfl, ?tky4002⟩) hH0 ?tkr4002
 case tky4002 => (intro w' hSw; clear hSw; go_simp; try with_reducible rfl)
 try simp only [Act.put, zqa, zqb, zqc]
 refine wpAnyH_take (i := 2) (oi := { dst := some 9, op := Op.move (Operand.tmp 8), type := 4, pos := _, after := _, guard := none }) (v := ?tkv4003) rfl (by kernel_rfl) (by kernel_rfl) (by kernel_rfl) (fun _ _ _ h => h) (Or.inl ⟨by rfl, ?tky4003⟩) hH0 ?tkr4003
 case tky4003 => (intro w' hSw; clear hSw; go_simp; try with_reducible rfl)
 try simp only [Act.put, zqa, zqb, zqc]
 refine wpAnyH_take (i := 3) (oi := { dst := some 10, op := Op.move (Operand.tmp 0), type := 55, pos := _, after := _, guard := some (2, false) }) (v := ?tkv4004) rfl (by kernel_rfl) (by kernel_rfl) (by kernel_rfl) (fun _ _ _ h => h) (Or.inl ⟨by rfl, ?tky4004⟩) hH0 ?tkr4004
 case tky4004 => (intro w' hSw; clear hSw; go_simp; try with_reducible rfl)
 try simp only [Act.put, zqa, zqb, zqc]
 refine wpAnyH_take (i := 4) (oi := { dst := some 11, op := Op.nilCheck (Operand.tmp 10), type := 0, pos := _, after := _, guard := some (2, false) }) (v := ?tkv4005) rfl (by kernel_rfl) (by kernel_rfl) (by kernel_rfl) (fun _ _ _ h => h) (Or.inl ⟨by rfl, ?tky4005⟩) hH0 ?tkr4005
 case tky4005 => (intro w' hSw; clear hSw; go_simp; try with_reducible rfl)
 try simp only [Act.put, zqa, zqb, zqc]
 refine wpAnyH_take (i := 5) (oi := { dst := some 12, op := Op.fieldAddr 104 (Operand.tmp 11) 1, type := 0, pos := _, after := _, guard := some (2, false) }) (v := ?tkv4006) rfl (by kernel_rfl) (by kernel_rfl) (by kernel_rfl) (fun _ _ _ h => h) (Or.inl ⟨by rfl, ?tky4006⟩) hH0 ?tkr4006
 case tky4006 => (intro w' hSw; clear hSw; go_simp; try with_reducible rfl)
 try simp only [Act.put, zqa, zqb, zqc]
 refine wpAnyH_take (i := 6) (oi := { dst := some 13, op := Op.load 87 (Operand.tmp 12), type := 87, pos := _, after := _, guard := some (2, false) }) (v := ?tkv4007) rfl (by kernel_rfl) (by kernel_rfl) (by kernel_rfl) (fun _ _ _ h => h) (Or.inl ⟨by rfl, ?tky4007⟩) hH0 ?tkr4007
 case tky4007 => (intro w' hSw; have z0 := HFX.out _ hSw; clear hSw; go_simp; try with_reducible rfl)
 try simp only [Act.put, zqa, zqb, zqc]
 refine wpAnyH_take (i := 7) (oi := { dst := some 14, op := Op.move (Operand.tmp 0), type := 55, pos := _, after := _, guard := some (2, false) }) (v := ?tkv4008) rfl (by kernel_rfl) (by kernel_rfl) (by kernel_rfl) (fun _ _ _ h => h) (Or.inl ⟨by rfl, ?tky4008⟩) hH0 ?tkr4008
 case tky4008 => (intro w' hSw; clear hSw; go_simp; try with_reducible rfl)
 try simp only [Act.put, zqa, zqb, zqc]
 refine wpAnyH_take (i := 8) (oi := { dst := some 15, op := Op.nilCheck (Operand.tmp 14), type := 0, pos := _, after := _, guard := some (2, false) }) (v := ?tkv4009) rfl (by kernel_rfl) (by kernel_rfl) (by kernel_rfl) (fun _ _ _ h => h) (Or.inl ⟨by rfl, ?tky4009⟩) hH0 ?tkr4009
 case tky4009 => (intro w' hSw; clear hSw; go_simp; try with_reducible rfl)
 try simp only [Act.put, zqa, zqb, zqc]
 refine wpAnyH_take (i := 9) (oi := { dst := some 16, op := Op.fieldAddr 104 (Operand.tmp 15) 0, type := 0, pos := _, after := _, guard := some (2, false) }) (v := ?tkv4010) rfl (by kernel_rfl) (by kernel_rfl) (by kernel_rfl) (fun _ _ _ h => h) (Or.inl ⟨by rfl, ?tky4010⟩) hH0 ?tkr4010
 case tky4010 => (intro w' hSw; clear hSw; go_simp; try with_reducible rfl)
 try simp only [Act.put, zqa, zqb, zqc]
 refine wpAnyH_take (i := 10) (oi := { dst := some 17, op := Op.load 76 (Operand.tmp 16), type := 76, pos := _, after := _, guard := some (2, false) }) (v := ?tkv4011) rfl (by kernel_rfl) (by kernel_rfl) (by kernel_rfl) (fun _ _ _ h => h) (Or.inl ⟨by rfl, ?tky4011⟩) hH0 ?tkr4011
 case tky4011 => (intro w' hSw; have z0 := HFX.out _ hSw; clear hSw; go_simp; try with_reducible rfl)
 try simp only [Act.put, zqa, zqb, zqc]
 refine wpAnyH_take (i := 11) (oi := { dst := some 18, op := Op.move (Operand.tmp 1), type := 32, pos := _, after := _, guard := some (2, false) }) (v := ?tkv4012) rfl (by kernel_rfl) (by kernel_rfl) (by kernel_rfl) (fun _ _ _ h => h) (Or.inl ⟨by rfl, ?tky4012⟩) hH0 ?tkr4012
 case tky4012 => (intro w' hSw; clear hSw; go_simp; try with_reducible rfl)
 try simp only [Act.put, zqa, zqb, zqc]
 refine wpAnyH_take (i := 13) (oi := { dst := some 20, op := Op.move (Operand.tmp 2), type := 22, pos := _, after := _, guard := some (2, false) }) (v := ?tkv4013) rfl (by kernel_rfl) (by kernel_rfl) (by kernel_rfl) (fun _ _ _ h => h) (Or.inl ⟨by rfl, ?tky4013⟩) hH0 ?tkr4013
 case tky4013 => (intro w' hSw; clear hSw; go_simp; try with_reducible rfl)
 try simp only [Act.put, zqa, zqb, zqc]
 refine wpAnyH_ready (rs := [12]) (by kernel_rfl) (by simp) ?_
 refine AllReadyH.cons (o := { dst := some 19, op := Op.call { callee := Callee.value (Operand.func 73), args := #[Operand.tmp 17, Operand.tmp 18], argTypes := #[76, 32] }, type := 125, pos := _, after := _, guard := some (2, false) }) rfl (fun K hK => ?_) AllReadyH.nil
 go_simp
 refine (row_any s id kk P Z wd4000 HS.out HID.out HK.out HP.out HZ.out).mono ?_
 rintro e' wn4014 ⟨gv4014, hv4014, rfl, _, _, hvec4014, hb4014'⟩
 have hb4014 := hb4014'.out
 have HV4014 := Lib.hid hvec4014.out
 clear hvec4014 hb4014'
 go_simp
 have hS4014 : Below (w.heap.size) w wn4014 := (hH0).trans (hb4014.mono (hH0).size)
 refine hK.out _ _ hS4014 (fun hH4014 => ?_)
 have hH4014 : Below (w.heap.size) w wn4014 := hH4014
 clear hK K hS4014
 try simp only [Act.put, zqa, zqb, zqc]
 refine wpAnyH_ready (rs := [14]) (by kernel_rfl) (by simp) ?_
 refine AllReadyH.cons (o := { dst := some 21, op := Op.call { callee := Callee.value (Operand.func 71), args := #[Operand.tmp 13, Operand.tmp 19, Operand.tmp 20], argTypes := #[87, 125, 22] }, type := 4, pos := _, after := _, guard := some (2, false) }) rfl (fun K hK => ?_) AllReadyH.nil
 go_simp
 obtain ⟨gr4015, rs4015, ea4015, mm4015⟩ := HM.out.below (hH4014)
 refine (add_no FM gm gr4015 (kk + P) Z rs4015 _ _ _ c A l wn4014 mm4015 HV4014.out (HRW.out wn4014 (hH4014)) HLZ.out (HT.out.grow (hH4014)) (by rw [ea4015]; exact HZE.out)).mono ?_
 rintro e' wn4015 ⟨rfl, hb4015'⟩
 have hb4015 := hb4015'.out
 clear mm4015 ea4015 hb4015'
 go_simp
 have hS4015 : Below (w.heap.size) w wn4015 := (hH4014).trans (hb4015.mono (hH4014).size)
 refine hK.out _ _ hS4015 (fun hH4015 => ?_)
 have hH4015 : Below (w.heap.size) w wn4015 := hH4015
 clear hK K hS4015
 try simp only [Act.put, zqa, zqb, zqc]
 refine wpAnyH_take (i := 15) (oi := { dst := some 22, op := Op.unOp UnOp.not 4 (Operand.tmp 21), type := 4, pos := _, after := _, guard := some (2, false) }) (v := ?tkv4016) rfl (by kernel_rfl) (by kernel_rfl) (by kernel_rfl) (fun _ _ _ h => h) (Or.inl ⟨by rfl, ?tky4016⟩) hH4015 ?tkr4016
 case tky4016 => (intro w' hSw; clear hSw; go_simp; try with_reducible rfl)
 try simp only [Act.put, zqa, zqb, zqc]
 refine wpAnyH_take (i := 16) (oi := { dst := some 23, op := Op.pick (Operand.tmp 9) (Operand.const (Value.bool true)) (Operand.tmp 22), type := 4, pos := _, after := _, guard := none }) (v := ?tkv4017) rfl (by kernel_rfl) (by kernel_rfl) (by kernel_rfl) (fun _ _ _ h => h) (Or.inl ⟨by rfl, ?tky4017⟩) hH4015 ?tkr4017
 case tky4017 => (intro w' hSw; clear hSw; go_simp; try with_reducible rfl)
 try simp only [Act.put, zqa, zqb, zqc]
 refine wpAnyH_done (by kernel_rfl) ?_ _
 refine NoPanic.normal ?_
 have HE := Lib.hid (hH4015)
 go_wp2_with fail
 go_ret
 exact ⟨rfl, HE⟩
set_option maxHeartbeats 3200000 in
theorem take_more (F : Nat → Prop) (gd s kk P Z t id c : Nat) (A : Option Addr) (l : List UInt8) (M : Mx) (w : World) (h : IsDec w F gd s kk P Z M t) (hnf : rankM M ≠ kk + P) (hi : Inv (kk + P) Z M) (hs : s < 4294967296) (hid : id < 4294967296) (hK : 1 ≤ kk ∧ kk ≤ 64) (hP : P ≤ 16) (hZ : 1 ≤ Z ∧ Z ≤ 16) (hl : l.length = Z) (hr : Row w w.heap.size A Z (bv l)) (ht : DTab w) (htb : t ≤ 1000000) :
  Calls Tryz.prog 46 #[.pointer (some ⟨gd, 0, none⟩), .int .u32 (id : Int), .slice A Z c] w (TakeOk F gd s kk P Z (addMx (kk + P) M (spX s kk P id) l) t w) := by
 obtain ⟨hgd, gm, FM, hFM, hm, hx⟩ := h
 have hc : w.heap[gd]? = some (.cells (decC s kk P Z gm t 0 (.slice none 0 0)) 104 (0, 0)) := by
  rcases hx with h | ⟨h, _⟩
  ·exact h
  ·exact absurd h hnf
 have HS := Lib.hid hs
 have HID := Lib.hid hid
 have HK := Lib.hid hK
 have HP := Lib.hid hP
 have HZ := Lib.hid hZ
 have HI := Lib.hid hi
 have HLZ := Lib.hid hl
 have HRW : Hid (∀ W, Below w.heap.size w W → Row W W.heap.size A l.length (bv l)) := Lib.hid fun W hW => by rw [hl]; exact (hr.below hW).more hW.size
 have HFM := Lib.hid hFM
 have HC := Lib.hid hc
 have HTB := Lib.hid htb
 have HGD := Lib.hid hgd
 have HNG : Hid (¬ FM gd) := Lib.hid fun h => (hFM gd h).2 rfl
 have hl := (Array.getElem?_eq_some_iff.1 hc).1
 have HFX : Hid (∀ W, DS FM gd w W → (W.cell? ⟨gd, 0, none⟩ = some (.int .u32 (s : Int)) ∧ W.cell? ⟨gd, 1, none⟩ = some (.int .i64 (kk : Int)) ∧ W.cell? ⟨gd, 2, none⟩ = some (.int .i64 (P : Int)) ∧ W.cell? ⟨gd, 3, none⟩ = some (.int .i64 (Z : Int))) ∧ W.cell? ⟨gd, 4, none⟩ = some (.pointer (some ⟨gm, 0, none⟩))) := Lib.hid fun W hW => dcells ((hW.f.block gd hl hW.n).trans hc)
 have HLT := Lib.hid hl
 have HMW : Hid (∀ W, Below w.heap.size w W → IsMat W FM gm (kk + P) Z M) := Lib.hid fun W hW => hm.below hW
 have HDT : Hid (∀ W, Below w.heap.size w W → DTab W) := Lib.hid fun W hW => ht.grow hW
 obtain ⟨⟨M2, b⟩, hR⟩ : ∃ R, addMx (kk + P) M (spX s kk P id) l = R := ⟨_, rfl⟩
 have HRES := Lib.hid hR
 rw [hR]
 have HFIN : Hid (∀ wp wf : World, w.heap.size ≤ wp.heap.size → IsMat wf (fun b => FM b ∨ (wp.heap.size ≤ b ∧ b < wf.heap.size)) gm (kk + P) Z M2 → DS FM gd w wf → IsDec wf (fun b => F b ∨ (w.heap.size ≤ b ∧ b < wf.heap.size)) gd s kk P Z M2 t ∧ IsDec (wf.setCell ⟨gd, 5, none⟩ (.int .i64 ((t : Int) + 1))) (fun b => F b ∨ (w.heap.size ≤ b ∧ b < wf.heap.size)) gd s kk P Z M2 (t + 1)) := Lib.hid fun wp wf hsz hmf hds => by
  have hFM2 : ∀ b, FM b ∨ (wp.heap.size ≤ b ∧ b < wf.heap.size) → (F b ∨ (w.heap.size ≤ b ∧ b < wf.heap.size)) ∧ b ≠ gd := fun b hb => by
   rcases hb with hb | hb
   ·exact ⟨.inl (hFM b hb).1, (hFM b hb).2⟩
   ·exact ⟨.inr ⟨by omega, hb.2⟩, by omega⟩
  have hcf := (hds.f.block gd hl hds.n).trans hc
  refine ⟨⟨.inl hgd, gm, _, hFM2, hmf, .inl hcf⟩, ⟨.inl hgd, gm, _, hFM2, hmf.keep fun b hb _ => heap_setCell_other _ _ _ _ (hFM2 b hb).2, .inl ?_⟩⟩
  rw [heap_setCell_same wf gd 5 _ _ _ hcf]
  rfl
 have HBD0 : Hid (Below w.heap.size w w.drew) := Lib.hid ((Below.refl _ _).drew)
 clear hgd hFM hm hx hc hs hid hK hP hZ hl hi hr ht hnf htb hR
 go_enter Tryz.func46, Tryz.ntmps46
 go_upto_region 1 with fail
 refine wp_region_noPanic ?_
 refine wp_region_held_drew (S := (fun W => DS FM gd w W)) (by kernel_rfl) ((DS.refl FM gd w HNG.out).below (Below.refl _ _).drew) (fun hH0 => ?_)
 have hH0 : DS FM gd w w.drew := hH0
 generalize w.drew = wd5000 at *
 refine wpAnyH_take (i := 0) (oi := { dst := some 7, op := Op.move (Operand.tmp 0), type := 55, pos := _, after := _, guard := none }) (v := ?tkv5001) rfl (by kernel_rfl) (by kernel_rfl) (by kernel_rfl) (fun _ _ _ h => h) (Or.inl ⟨by rfl, ?tky5001⟩) hH0 ?tkr5001
 case tky5001 => (intro w' hSw; clear hSw; go_simp; try with_reducible rfl)
 try simp only [Act.put, zqa, zqb, zqc]
 refine wpAnyH_take (i := 1) (oi := { dst := some 8, op := Op.binOp BinOp.eql 55 (Operand.tmp 7) (Operand.const (Value.pointer none)) 55, type := 4, pos := _, after := _, guard := none }) (v := ?tkv5002) rfl (by kernel_rfl) (by kernel_rfl) (by kernel_rfl) (fun _ _ _ h => h) (Or.inl ⟨by rfl, ?tky5002⟩) hH0 ?tkr5002
 case tky5002 => (intro w' hSw; clear hSw; go_simp; try with_reducible rfl)
 try simp only [Act.put, zqa, zqb, zqc]
 refine wpAnyH_take (i := 2) (oi := { dst := some 9, op := Op.move (Operand.tmp 8), type := 4, pos := _, after := _, guard := none }) (v := ?tkv5003) rfl (by kernel_rfl) (by kernel_rfl) (by kernel_rfl) (fun _ _ _ h => h) (Or.inl ⟨by rfl, ?tky5003⟩) hH0 ?tkr5003
 case tky5003 => (intro w' hSw; clear hSw; go_simp; try with_reducible rfl)
 try simp only [Act.put, zqa, zqb, zqc]
 refine wpAnyH_take (i := 3) (oi := { dst := some 10, op := Op.move (Operand.tmp 0), type := 55, pos := _, after := _, guard := some (2, false) }) (v := ?tkv5004) rfl (by kernel_rfl) (by kernel_rfl) (by kernel_rfl) (fun _ _ _ h => h) (Or.inl ⟨by rfl, ?tky5004⟩) hH0 ?tkr5004
 case tky5004 => (intro w' hSw; clear hSw; go_simp; try with_reducible rfl)
 try simp only [Act.put, zqa, zqb, zqc]
 refine wpAnyH_take (i := 4) (oi := { dst := some 11, op := Op.nilCheck (Operand.tmp 10), type := 0, pos := _, after := _, guard := some (2, false) }) (v := ?tkv5005) rfl (by kernel_rfl) (by kernel_rfl) (by kernel_rfl) (fun _ _ _ h => h) (Or.inl ⟨by rfl, ?tky5005⟩) hH0 ?tkr5005
 case tky5005 => (intro w' hSw; clear hSw; go_simp; try with_reducible rfl)
 try simp only [Act.put, zqa, zqb, zqc]
 refine wpAnyH_take (i := 5) (oi := { dst := some 12, op := Op.fieldAddr 104 (Operand.tmp 11) 1, type := 0, pos := _, after := _, guard := some (2, false) }) (v := ?tkv5006) rfl (by kernel_rfl) (by kernel_rfl) (by kernel_rfl) (fun _ _ _ h => h) (Or.inl ⟨by rfl, ?tky5006⟩) hH0 ?tkr5006
 case tky5006 => (intro w' hSw; clear hSw; go_simp; try with_reducible rfl)
 try simp only [Act.put, zqa, zqb, zqc]
 refine wpAnyH_take (i := 6) (oi := { dst := some 13, op := Op.load 87 (Operand.tmp 12), type := 87, pos := _, after := _, guard := some (2, false) }) (v := ?tkv5007) rfl (by kernel_rfl) (by kernel_rfl) (by kernel_rfl) (fun _ _ _ h => h) (Or.inl ⟨by rfl, ?tky5007⟩) hH0 ?tkr5007
 case tky5007 => (intro w' hSw; have z0 := HFX.out _ hSw; clear hSw; go_simp; try with_reducible rfl)
 try simp only [Act.put, zqa, zqb, zqc]
 refine wpAnyH_take (i := 7) (oi := { dst := some 14, op := Op.move (Operand.tmp 0), type := 55, pos := _, after := _, guard := some (2, false) }) (v := ?tkv5008) rfl (by kernel_rfl) (by kernel_rfl) (by kernel_rfl) (fun _ _ _ h => h) (Or.inl ⟨by rfl, ?tky5008⟩) hH0 ?tkr5008
 case tky5008 => (intro w' hSw; clear hSw; go_simp; try with_reducible rfl)
 try simp only [Act.put, zqa, zqb, zqc]
 refine wpAnyH_take (i := 8) (oi := { dst := some 15, op := Op.nilCheck (Operand.tmp 14), type := 0, pos := _, after := _, guard := some (2, false) }) (v := ?tkv5009) rfl (by kernel_rfl) (by kernel_rfl) (by kernel_rfl) (fun _ _ _ h => h) (Or.inl ⟨by rfl, ?tky5009⟩) hH0 ?tkr5009
 case tky5009 => (intro w' hSw; clear hSw; go_simp; try with_reducible rfl)
 try simp only [Act.put, zqa, zqb, zqc]
 refine wpAnyH_take (i := 9) (oi := { dst := some 16, op := Op.fieldAddr 104 (Operand.tmp 15) 0, type := 0, pos := _, after := _, guard := some (2, false) }) (v := ?tkv5010) rfl (by kernel_rfl) (by kernel_rfl) (by kernel_rfl) (fun _ _ _ h => h) (Or.inl ⟨by rfl, ?tky5010⟩) hH0 ?tkr5010
 case tky5010 => (intro w' hSw; clear hSw; go_simp; try with_reducible rfl)
 try simp only [Act.put, zqa, zqb, zqc]
 refine wpAnyH_take (i := 10) (oi := { dst := some 17, op := Op.load 76 (Operand.tmp 16), type := 76, pos := _, after := _, guard := some (2, false) }) (v := ?tkv5011) rfl (by kernel_rfl) (by kernel_rfl) (by kernel_rfl) (fun _ _ _ h => h) (Or.inl ⟨by rfl, ?tky5011⟩) hH0 ?tkr5011
 case tky5011 => (intro w' hSw; have z0 := HFX.out _ hSw; clear hSw; go_simp; try with_reducible rfl)
 try simp only [Act.put, zqa, zqb, zqc]
 refine wpAnyH_take (i := 11) (oi := { dst := some 18, op := Op.move (Operand.tmp 1), type := 32, pos := _, after := _, guard := some (2, false) }) (v := ?tkv5012) rfl (by kernel_rfl) (by kernel_rfl) (by kernel_rfl) (fun _ _ _ h => h) (Or.inl ⟨by rfl, ?tky5012⟩) hH0 ?tkr5012
 case tky5012 => (intro w' hSw; clear hSw; go_simp; try with_reducible rfl)
 try simp only [Act.put, zqa, zqb, zqc]
 refine wpAnyH_take (i := 13) (oi := { dst := some 20, op := Op.move (Operand.tmp 2), type := 22, pos := _, after := _, guard := some (2, false) }) (v := ?tkv5013) rfl (by kernel_rfl) (by kernel_rfl) (by kernel_rfl) (fun _ _ _ h => h) (Or.inl ⟨by rfl, ?tky5013⟩) hH0 ?tkr5013
 case tky5013 => (intro w' hSw; clear hSw; go_simp; try with_reducible rfl)
 try simp only [Act.put, zqa, zqb, zqc]
 refine wpAnyH_ready (rs := [12]) (by kernel_rfl) (by simp) ?_
 refine AllReadyH.cons (o := { dst := some 19, op := Op.call { callee := Callee.value (Operand.func 73), args := #[Operand.tmp 17, Operand.tmp 18], argTypes := #[76, 32] }, type := 125, pos := _, after := _, guard := some (2, false) }) rfl (fun K hK => ?_) AllReadyH.nil
 go_simp
 refine (row_any s id kk P Z wd5000 HS.out HID.out HK.out HP.out HZ.out).mono ?_
 rintro e' wn5014 ⟨gv5014, hv5014, rfl, _, _, hvec5014, hb5014'⟩
 have hb5014 := hb5014'.out
 have HV5014 := Lib.hid hvec5014.out
 have HB5014 : Hid (Below w.heap.size w wn5014) := Lib.hid (HBD0.out.trans (hb5014.mono HBD0.out.size))
 clear hvec5014 hb5014'
 go_simp
 have hS5014 : DS FM gd w wn5014 := (hH0).below hb5014
 refine hK.out _ _ hS5014 (fun hH5014 => ?_)
 have hH5014 : DS FM gd w wn5014 := hH5014
 clear hK K hS5014
 try simp only [Act.put, zqa, zqb, zqc]
 refine wpAnyH_ready (rs := [14]) (by kernel_rfl) (by simp) ?_
 refine AllReadyH.cons (o := { dst := some 21, op := Op.call { callee := Callee.value (Operand.func 71), args := #[Operand.tmp 13, Operand.tmp 19, Operand.tmp 20], argTypes := #[87, 125, 22] }, type := 4, pos := _, after := _, guard := some (2, false) }) rfl (fun K hK => ?_) AllReadyH.nil
 go_simp
 refine (addI (HMW.out wn5014 HB5014.out) HI.out HV5014.out (HRW.out wn5014 HB5014.out) HLZ.out (HDT.out wn5014 HB5014.out)).mono ?_
 rw [HRES.out]
 rintro e' wn5015 ⟨rfl, hm5015, hr5015'⟩
 have hr5015 := hr5015'.out
 have HM5015 := Lib.hid hm5015.out
 clear hm5015 hr5015'
 go_simp
 have hS5015 : DS FM gd w wn5015 := (hH5014).fr hr5015
 refine hK.out _ _ hS5015 (fun hH5015 => ?_)
 have hH5015 : DS FM gd w wn5015 := hH5015
 clear hK K hS5015
 try simp only [Act.put, zqa, zqb, zqc]
 refine wpAnyH_take (i := 15) (oi := { dst := some 22, op := Op.unOp UnOp.not 4 (Operand.tmp 21), type := 4, pos := _, after := _, guard := some (2, false) }) (v := ?tkv5016) rfl (by kernel_rfl) (by kernel_rfl) (by kernel_rfl) (fun _ _ _ h => h) (Or.inl ⟨by rfl, ?tky5016⟩) hH5015 ?tkr5016
 case tky5016 => (intro w' hSw; clear hSw; go_simp; try with_reducible rfl)
 try simp only [Act.put, zqa, zqb, zqc]
 refine wpAnyH_take (i := 16) (oi := { dst := some 23, op := Op.pick (Operand.tmp 9) (Operand.const (Value.bool true)) (Operand.tmp 22), type := 4, pos := _, after := _, guard := none }) (v := ?tkv5017) rfl (by kernel_rfl) (by kernel_rfl) (by kernel_rfl) (fun _ _ _ h => h) (Or.inl ⟨by rfl, ?tky5017⟩) hH5015 ?tkr5017
 case tky5017 => (intro w' hSw; clear hSw; go_simp; try with_reducible rfl)
 try simp only [Act.put, zqa, zqb, zqc]
 refine wpAnyH_done (by kernel_rfl) ?_ _
 refine NoPanic.normal ?_
 have HE := Lib.hid (hH5015)
 have HSZ : Hid (w.heap.size ≤ wn5014.heap.size) := Lib.hid (hH5014).size
 obtain ⟨wp, rfl⟩ : ∃ x : World, x = wn5014 := ⟨_, rfl⟩
 obtain ⟨wf, rfl⟩ : ∃ x : World, x = wn5015 := ⟨_, rfl⟩
 have HMF := HM5015
 cases b with
 | false =>
  go_wp2_with fail
  go_ret
  exact ⟨rfl, Lib.hid (HFIN.out wp wf HSZ.out HMF.out HE.out).1, Lib.hid (HE.out.f.more fun q _ hq => (HFM.out q hq).1)⟩
 | true =>
  have hc5 : wf.cell? ⟨gd, 5, none⟩ = some (.int .i64 (t : Int)) := dcell_at ((HE.out.f.block gd HLT.out HE.out.n).trans HC.out) rfl
  have hz5 := frozen_of_row wf gd 5 _ _ ((HE.out.f.block gd HLT.out HE.out.n).trans HC.out)
  have HADD := Lib.hid (add64_any gd 5 (t : Int) wf hc5 hz5 ⟨by omega, by have := HTB.out; omega⟩)
  clear hc5 hz5
  go_wp2_with fail
  refine HADD.out.mono ?_
  rintro e w9 ⟨rfl, rfl⟩
  go_wp2_with fail
  go_ret
  exact ⟨rfl, Lib.hid (by rw [show (wf.setCell ⟨gd, 5, none⟩ (.int .i64 ((t : Int) + 1))).heap.size = wf.heap.size by simp]; exact (HFIN.out wp wf HSZ.out HMF.out HE.out).2), Lib.hid ((HE.out.f.more fun q _ hq => (HFM.out q hq).1).trans (Fr.of_grown (grown_set _ _ _ _) HGD.out) (fun _ _ h => h))⟩
theorem take_any (F : Nat → Prop) (gd s kk P Z t id c : Nat) (A : Option Addr) (l : List UInt8) (M : Mx) (w : World) (h : IsDec w F gd s kk P Z M t) (hi : Inv (kk + P) Z M) (hs : s < 4294967296) (hid : id < 4294967296) (hK : 1 ≤ kk ∧ kk ≤ 64) (hP : P ≤ 16) (hZ : 1 ≤ Z ∧ Z ≤ 16) (hl : l.length = Z) (hr : Row w w.heap.size A Z (bv l)) (ht : DTab w) (htb : t ≤ 1000000) :
  Calls Tryz.prog 46 #[.pointer (some ⟨gd, 0, none⟩), .int .u32 (id : Int), .slice A Z c] w (TakeOk F gd s kk P Z (addMx (kk + P) M (spX s kk P id) l) t w) := by
 by_cases hf : rankM M = kk + P
 ·have h0 := full_says hi hf (spX_lt (s := s) (id := id)) l
  refine (take_old F gd s kk P Z t id c A l M w h hi hs hid hK hP hZ hl hr ht h0).mono ?_
  rintro e w' ⟨rfl, hb⟩
  rw [addMx_no h0]
  exact ⟨rfl, Lib.hid ((h.below hb.out).more fun b hb => .inl hb), Lib.hid (Fr.of_below hb.out)⟩
 ·exact take_more F gd s kk P Z t id c A l M w h hf hi hs hid hK hP hZ hl hr ht htb
end Go.Proofs.YtmncpgfdpcckpaaGreatDoor.Dc
