/- boot: by contract, states as data. -/
import Derived.Test.YtmncpgfdpcckpaaGreatDoorZMCQN
import Derived.Test.YtmncpgfdpcckpaaGreatDoorZOQN
set_option maxRecDepth 100000
namespace Go.Proofs.YtmncpgfdpcckpaaGreatDoor
open Go.RowKit
section
variable {w w' : World} {P : Nat → Prop} {cs : Array Value} {L : LSt}
theorem IsSt.set0 (h : IsSt w P cs L) (k : Int) : IsSt w P (cs.setIfInBounds 0 (.int .i64 k)) { L with act := k } := by
 obtain ⟨A0, c0, A1, c1, A, c, rfl, r0, r1, r2⟩ := h
 exact ⟨A0, c0, A1, c1, A, c, rfl, r0, r1, r2⟩
theorem IsSt.set1 (h : IsSt w P cs L) (k : Int) : IsSt w P (cs.setIfInBounds 1 (.int .i64 k)) { L with trial := k } := by
 obtain ⟨A0, c0, A1, c1, A, c, rfl, r0, r1, r2⟩ := h
 exact ⟨A0, c0, A1, c1, A, c, rfl, r0, r1, r2⟩
theorem stMay_act (h : L.may = true) : (L.act = 0 ∨ L.act = 1) ∧ 0 ≤ L.trial ∧ L.trial ≤ 3 := by
 unfold LSt.may mayB2 at h
 simp only [Bool.and_eq_true, decide_eq_true_eq] at h
 obtain ⟨⟨⟨h1, h2, h3⟩, _⟩, _⟩ := h
 exact ⟨h1, h2, h3⟩
end
def RetSV (L : LSt) (v : Value) (w : World) (e : Ending) (w' : World) : Prop := ∃ cs, e = .returned (.tuple #[.agg cs, v]) ∧ Hid (IsSt w' (fun b => w.heap.size ≤ b) cs L) ∧ Hid (Below w.heap.size w w')
end Go.Proofs.YtmncpgfdpcckpaaGreatDoor
namespace Go.Proofs.YtmncpgfdpcckpaaGreatDoor
open Go.RowKit
def LSt.activate (L : LSt) : LSt := if L.act = 0 then { L with act := 1 - L.act, trial := 3, on := false, m := LMan.zero, v1 := L.m.v, l1 := L.m.l, h1 := L.m.h } else { L with act := 1 - L.act, trial := 3, on := false, m := LMan.zero, v0 := L.m.v, l0 := L.m.l, h0 := L.m.h }
theorem own_rowR {w : World} {B n c lo g : Nat} {A : Option Addr} {l : List UInt8} (h : w.ownsRow B 5 1 (.slice A n c) n (bv l)) (hg : g < B) (hB : lo < B) : RowP w (fun b => lo < b ∧ b ≠ g) A n (bv l) := by
 refine ⟨(Row.of_own h).1, fun hn => ?_⟩
 obtain ⟨b, o, e, hlt, hc⟩ := (Row.of_own h).2 hn
 have := (h.lt b (by rw [e]; rfl)).1
 exact ⟨b, o, e, hlt, ⟨by omega, by omega⟩, hc⟩
theorem set3_heap {w : World} {g o : Nat} {x y z : Value} {cs : Array Value} {t : TypeId} (h : w.heap[g]? = some (.cells cs t (0, 0))) : (w.setCells g o [x, y, z]).heap[g]? = some (.cells (((cs.setIfInBounds o x).setIfInBounds (o + 1) y).setIfInBounds (o + 2) z) t (0, 0)) :=
 heap_setCell_same _ g (o + 2) _ _ z (heap_setCell_same _ g (o + 1) _ _ y (heap_setCell_same w g o _ _ x h))
theorem set3_other {w : World} {g o b : Nat} {x y z : Value} (h : b ≠ g) : (w.setCells g o [x, y, z]).heap[b]? = w.heap[b]? :=
 (heap_setCell_other _ _ _ _ h).trans ((heap_setCell_other _ _ _ _ h).trans (heap_setCell_other _ _ _ _ h))
theorem set3_size {w : World} {g o : Nat} {x y z : Value} : (w.setCells g o [x, y, z]).heap.size = w.heap.size := by
 show (((w.setCell _ x).setCell _ y).setCell _ z).heap.size = _
 simp
structure AS (w : World) (g4 : Nat) (cs : Array Value) (a : Int) (W : World) : Prop where
 b : Below w.heap.size w W
 g : g4 + 1 ≤ W.heap.size
 x4 : ∃ c : Array Value, c.size = 17 ∧ c[0]? = some (.int .i64 a) ∧ W.heap[g4]? = some (.cells c 39 (0, 0))
 xs : W.heap[w.heap.size]? = some (.cells cs 39 (0, 0))
 y : W.heap[w.heap.size + 1]? = some (.cells #[.int .i64 0, .int .i64 0, .int .u32 0, .int .u32 0, .int .u32 0, .int .i64 0, .slice none 0 0, .int .u32 0, .int .i64 0, .slice none 0 0, .bool false, .int .u32 0, .int .u32 0, .int .i64 0, .int .i64 0, .int .i64 0, .slice none 0 0] 39 (0, 0))
theorem AS.below {w : World} {g4 : Nat} {cs : Array Value} {a : Int} {W W' : World} (h : AS w g4 cs a W) (hb : Below W.heap.size W W') : AS w g4 cs a W' := by
 obtain ⟨b, g, ⟨c, h1, h2, h3⟩, xs, y⟩ := h
 exact ⟨b.trans (hb.mono b.size), Nat.le_trans g hb.size, ⟨c, h1, h2, (hb.block _ (Array.getElem?_eq_some_iff.1 h3).1).trans h3⟩, (hb.block _ (Array.getElem?_eq_some_iff.1 xs).1).trans xs, (hb.block _ (Array.getElem?_eq_some_iff.1 y).1).trans y⟩
theorem AS.set3 {w : World} {g4 : Nat} {cs : Array Value} {a : Int} {W : World} (h : AS w g4 cs a W) (o : Nat) (ho : 0 < o) (hg : w.heap.size + 1 < g4) (x y z : Value) : AS w g4 cs a (W.setCells g4 o [x, y, z]) := by
 obtain ⟨b, g, ⟨c, h1, h2, h3⟩, xs, yy⟩ := h
 have b1 : Below w.heap.size w (W.setCells g4 o [x, y, z]) := ((b.setCell (by show w.heap.size ≤ g4; omega) _).setCell (by show w.heap.size ≤ g4; omega) _).setCell (by show w.heap.size ≤ g4; omega) _
 refine ⟨b1, by rw [set3_size]; exact g, ⟨_, ?_, ?_, set3_heap h3⟩, (set3_other (by omega)).trans xs, (set3_other (by omega)).trans yy⟩
 ·simp [h1]
 ·rw [Array.getElem?_setIfInBounds_ne (by omega), Array.getElem?_setIfInBounds_ne (by omega), Array.getElem?_setIfInBounds_ne (by omega)]; exact h2
structure CS (w : World) (g4 : Nat) (c4 : Array Value) (D : LSt) (W : World) : Prop where
 x4 : W.heap[g4]? = some (.cells c4 39 (0, 0))
 s4 : IsSt W (fun b => w.heap.size + 1 < b ∧ b ≠ g4) c4 D
theorem CS.below {w : World} {g4 : Nat} {c4 : Array Value} {D : LSt} {W W' : World} (h : CS w g4 c4 D W) (hb : Below W.heap.size W W') : CS w g4 c4 D W' :=
 ⟨(hb.block _ (Array.getElem?_eq_some_iff.1 h.x4).1).trans h.x4, h.s4.below hb⟩
theorem CS.there {w : World} {g4 : Nat} {c4 : Array Value} {D : LSt} {W : World} (h : CS w g4 c4 D W) (o : Nat) (ho : o + 3 ≤ 17) : W.there g4 o 3 := fun j hj => by
 have hs := h.s4.size
 rw [cell_of_row W g4 (o + j) _ _ (0, 0) h.x4]
 exact ⟨by rw [Array.getElem?_eq_getElem (by omega)]; rfl, frozen_of_row W g4 (o + j) _ _ h.x4⟩
theorem CS.put1 {w : World} {g4 n c v : Nat} {l : Int} {A : Option Addr} {d : List UInt8} {c4 : Array Value} {D : LSt} {W : World} (h : CS w g4 c4 D W) (r : RowP W (fun b => w.heap.size + 1 < b ∧ b ≠ g4) A n (bv d)) (hn : n = d.length) :
  CS w g4 (((c4.setIfInBounds 7 (.int .u32 (v : Int))).setIfInBounds (7 + 1) (.int .i64 l)).setIfInBounds (7 + 2) (.slice A n c)) { D with v1 := v, l1 := l, h1 := d } (W.setCells g4 7 [.int .u32 (v : Int), .int .i64 l, .slice A n c]) := by
 subst hn
 refine ⟨set3_heap h.x4, ?_⟩
 have s : IsSt W (fun b => w.heap.size + 1 < b ∧ b ≠ g4) (((c4.setIfInBounds 7 (.int .u32 (v : Int))).setIfInBounds (7 + 1) (.int .i64 l)).setIfInBounds (7 + 2) (.slice A d.length c)) { D with v1 := v, l1 := l, h1 := d } := by
  obtain ⟨A0, c0, A1, c1, A2, c2, rfl, r0, r1, r2⟩ := h.s4
  exact ⟨A0, c0, A, c, A2, c2, rfl, r0, r, r2⟩
 exact s.keep (by rw [set3_size]; exact Nat.le_refl _) fun b hb _ => set3_other hb.2
theorem CS.put0 {w : World} {g4 n c v : Nat} {l : Int} {A : Option Addr} {d : List UInt8} {c4 : Array Value} {D : LSt} {W : World} (h : CS w g4 c4 D W) (r : RowP W (fun b => w.heap.size + 1 < b ∧ b ≠ g4) A n (bv d)) (hn : n = d.length) :
  CS w g4 (((c4.setIfInBounds 4 (.int .u32 (v : Int))).setIfInBounds (4 + 1) (.int .i64 l)).setIfInBounds (4 + 2) (.slice A n c)) { D with v0 := v, l0 := l, h0 := d } (W.setCells g4 4 [.int .u32 (v : Int), .int .i64 l, .slice A n c]) := by
 subst hn
 refine ⟨set3_heap h.x4, ?_⟩
 have s : IsSt W (fun b => w.heap.size + 1 < b ∧ b ≠ g4) (((c4.setIfInBounds 4 (.int .u32 (v : Int))).setIfInBounds (4 + 1) (.int .i64 l)).setIfInBounds (4 + 2) (.slice A d.length c)) { D with v0 := v, l0 := l, h0 := d } := by
  obtain ⟨A0, c0, A1, c1, A2, c2, rfl, r0, r1, r2⟩ := h.s4
  exact ⟨A, c, A1, c1, A2, c2, rfl, r, r1, r2⟩
 exact s.keep (by rw [set3_size]; exact Nat.le_refl _) fun b hb _ => set3_other hb.2
theorem st_now {w : World} {P : Nat → Prop} {cs : Array Value} {L : LSt} (h : IsSt w P cs L) : ∃ A c, cs[12]? = some (.int .u32 (L.m.v : Int)) ∧ cs[13]? = some (.int .i64 L.m.l) ∧ cs[16]? = some (.slice A L.m.h.length c) ∧ RowP w P A L.m.h.length (bv L.m.h) := by
 obtain ⟨A0, c0, A1, c1, A, c, rfl, r0, r1, r2⟩ := h
 exact ⟨A, c, rfl, rfl, rfl, r2⟩
set_option maxHeartbeats 3200000 in
theorem activate_yes {w : World} {P : Nat → Prop} {cs : Array Value} {L : LSt} (h : IsSt w P cs L) (hm : L.may = true) (hon : L.on = true) (ht : L.trial = 0) : Calls Tryz.prog 78 #[.agg cs] w (RetSV L.activate (.int .i64 0) w) := by
 have HL := Lib.hid (light_of_may hm)
 obtain ⟨hact, _, _⟩ := stMay_act hm
 obtain ⟨Ah, ch, e12, e13, e16, rh⟩ := st_now h
 have C12 := Lib.hid e12
 have C13 := Lib.hid e13
 have C16 := Lib.hid e16
 have RH : Hid (Row w w.heap.size Ah L.m.h.length (bv L.m.h)) := Lib.hid rh.row
 clear e12 e13 e16 rh
 have e0 := (((Env.start w).addSt h).alloc cs 39).alloc #[.int .i64 0, .int .i64 0, .int .u32 0, .int .u32 0, .int .u32 0, .int .i64 0, .slice none 0 0, .int .u32 0, .int .i64 0, .slice none 0 0, .bool false, .int .u32 0, .int .u32 0, .int .i64 0, .int .i64 0, .int .i64 0, .slice none 0 0] 39
 rw [show (w.alloc (.cells cs 39)).heap.size = w.heap.size + 1 by simp] at e0
 have E0 := Lib.hid e0
 have HM := Lib.hid hm
 have IN := Lib.hid h.inf
 clear e0 h hm
 go_enter Tryz.func78, Tryz.ntmps78
 go_wp2_with ((with_reducible show wpList _ _ _ _ _ _); refine wpList_load_row (o := ⟨some 5, _, _, _, _, _⟩) rfl _ (.tmp 1) rfl (w.heap.size) rfl _ _ _ _ (E0.out.bx _ _ _ (.tail _ (.head _))) Tryz.underlying39 rfl IN.out ?_)
 generalize (w.alloc (.cells cs 39)).alloc (.cells #[.int .i64 0, .int .i64 0, .int .u32 0, .int .u32 0, .int .u32 0, .int .i64 0, .slice none 0 0, .int .u32 0, .int .i64 0, .slice none 0 0, .bool false, .int .u32 0, .int .u32 0, .int .i64 0, .int .i64 0, .int .i64 0, .slice none 0 0] 39) = w0 at *
 refine (mayS (E0.out.st _ _ (.head _))).mono ?_
 rintro e w1 ⟨rfl, hb1⟩
 rw [HM.out]
 have E1 := Lib.hid (E0.out.below hb1)
 clear hb1 E0
 have k10 := (E1.out.cell (.tail _ (.head _)) 10).trans (E1.out.st _ _ (.head _)).c10
 have k1 := (E1.out.cell (.tail _ (.head _)) 1).trans (E1.out.st _ _ (.head _)).c1
 rw [hon] at k10
 rw [ht] at k1
 go_wp2_with ((with_reducible show wpList _ _ _ _ _ _); refine wpList_load_row (o := ⟨some 18, _, _, _, _, _⟩) rfl _ (.tmp 1) rfl (w.heap.size) rfl _ _ _ _ (E1.out.bx _ _ _ (.tail _ (.head _))) Tryz.underlying39 rfl IN.out ?_)
 refine (dropS (E1.out.st _ _ (.head _)) HL.out).mono ?_
 rintro e w2 ⟨c1, rfl, S1, hb2⟩
 have E2 := Lib.hid (E1.out.below hb2.out)
 have I1 := Lib.hid S1.out.inf
 have O1 := Lib.hid S1.out.one
 have Z1 : Hid (17 = c1.size) := Lib.hid S1.out.size.symm
 have lw : w.heap.size + 1 < w1.heap.size := (Array.getElem?_eq_some_iff.1 (E1.out.bx _ _ _ (.head _))).1
 have LW : Hid (w.heap.size + 1 < w2.heap.size) := Lib.hid (Nat.lt_of_lt_of_le lw hb2.out.size)
 have S1' := Lib.hid (S1.out.imp (P' := fun b => w.heap.size + 1 < b ∧ b ≠ w2.heap.size) fun b hlt hb => ⟨Nat.lt_of_lt_of_le lw hb, Nat.ne_of_lt hlt⟩)
 clear lw hb2 E1 S1 k10 k1
 have k0 := (E2.out.alloc c1 39).cell (.tail _ (.tail _ (.head _))) 0 |>.trans (E2.out.st _ _ (.head _)).c0
 have f0 := frozen_of_row (w2.alloc (.cells c1 39)) w2.heap.size 0 _ _ (heap_alloc_new _ _)
 have j0 := (cell_of_row (w2.alloc (.cells c1 39)) w2.heap.size 0 _ _ (0, 0) (heap_alloc_new _ _)).trans S1'.out.c0
 have f1 := frozen_of_row (w2.alloc (.cells (c1.setIfInBounds 0 (.int .i64 (1 - L.act))) 39)) w2.heap.size 1 _ _ (heap_alloc_new _ _)
 have j1 := (cell_of_row (w2.alloc (.cells (c1.setIfInBounds 0 (.int .i64 (1 - L.act))) 39)) w2.heap.size 1 _ _ (0, 0) (heap_alloc_new _ _)).trans (S1'.out.set0 (1 - L.act)).c1
 have q8 : IntKind.i64.wrap (1 - L.act) = 1 - L.act := by rw [IntKind.wrap_i64]; omega
 go_upto_region 8 with ((with_reducible show wpList _ _ _ _ _ _); refine wpList_store_new rfl rfl _ (.tmp 4) (.tmp 19) rfl _ _ c1 _ rfl rfl I1.out Z1.out O1.out ?_)
 have e4 := E2.out.alloc ((c1.setIfInBounds 0 (.int .i64 (1 - L.act))).setIfInBounds 1 (.int .i64 3)) 39
 have hbA : Below w2.heap.size w2 (w2.alloc (.cells ((c1.setIfInBounds 0 (.int .i64 (1 - L.act))).setIfInBounds 1 (.int .i64 3)) 39)) := (Below.refl _ _).alloc (Nat.le_refl _) _
 have S4 := ((S1'.out.below hbA).set0 (1 - L.act)).set1 3
 have X4 := e4.bx _ _ _ (.head _)
 have KA : Hid (AS w w2.heap.size cs (1 - L.act) (w2.alloc (.cells ((c1.setIfInBounds 0 (.int .i64 (1 - L.act))).setIfInBounds 1 (.int .i64 3)) 39))) := Lib.hid ⟨e4.b, by simp, ⟨_, S4.size, S4.c0, X4⟩, e4.bx _ _ _ (.tail _ (.tail _ (.head _))), e4.bx _ _ _ (.tail _ (.head _))⟩
 clear k0 f0 j0 f1 j1 q8 e4 hbA E2 I1 O1 Z1 S1'
 generalize w2.alloc (.cells ((c1.setIfInBounds 0 (.int .i64 (1 - L.act))).setIfInBounds 1 (.int .i64 3)) 39) = wB at *
 have LG := LW
 clear LW
 generalize w2.heap.size = g4 at *
 have LG1 : Hid (w.heap.size + 1 < g4 + 1) := Lib.hid (Nat.lt_succ_of_lt LG.out)
 have LG4 : Hid (g4 < g4 + 1) := Lib.hid (Nat.lt_succ_self _)
 have HRH : Hid (∀ W, AS w g4 cs (1 - L.act) W → Row W W.heap.size Ah L.m.h.length (bv L.m.h)) := Lib.hid fun W hW => (RH.out.below hW.b).more hW.b.size
 rcases hact with ha | ha
 ·have D : L.drop = { L with on := false, m := LMan.zero } := by unfold LSt.drop; rw [if_pos HM.out]
  have HFIN : Hid (LSt.activate L = { L with act := 1 - L.act, trial := 3, on := false, m := LMan.zero, v1 := L.m.v, l1 := L.m.l, h1 := L.m.h }) := Lib.hid (by unfold LSt.activate; rw [ha]; rfl)
  rw [D] at S4
  clear D
  have q9 : (1 : Int) - L.act = 1 := by omega
  go_upto_region 8 with fail
  generalize hc4 : (c1.setIfInBounds 0 (.int .i64 (1 - L.act))).setIfInBounds 1 (.int .i64 3) = c4 at *
  have HF : Hid (∀ W, AS w g4 cs (1 - L.act) W → W.cell? ⟨g4, 0, none⟩ = some (.int .i64 1) ∧ W.cell? ⟨w.heap.size, 12, none⟩ = some (.int .u32 (L.m.v : Int)) ∧ W.cell? ⟨w.heap.size, 13, none⟩ = some (.int .i64 L.m.l) ∧ W.cell? ⟨w.heap.size, 16, none⟩ = some (.slice Ah L.m.h.length ch)) := Lib.hid fun W hW => by
   obtain ⟨cc, h17, h0, hx⟩ := hW.x4
   exact ⟨by rw [cell_of_row W g4 0 _ _ (0, 0) hx, h0, q9], (cell_of_row W _ 12 _ _ (0, 0) hW.xs).trans C12.out, (cell_of_row W _ 13 _ _ (0, 0) hW.xs).trans C13.out, (cell_of_row W _ 16 _ _ (0, 0) hW.xs).trans C16.out⟩
  clear q9
  have CS4 : Hid (CS w g4 c4 { L with act := 1 - L.act, trial := 3, on := false, m := LMan.zero } wB) := Lib.hid ⟨X4, S4⟩
  clear X4 S4 hc4
  refine wp_region_noPanic ?_
  refine wp_region_held_drew (S := (fun W => AS w g4 cs (1 - L.act) W)) (by kernel_rfl) (KA.out.below (Below.refl _ _).drew) (fun hH0 => ?_)
  have hH0 : AS w g4 cs (1 - L.act) wB.drew := hH0
  have CD := Lib.hid (CS4.out.below ((Below.refl wB.heap.size wB).drew))
  generalize wB.drew = wd3000 at *
  refine wpAnyH_take (i := 0) (oi := { dst := some 25, op := Op.fieldAddr 39 (Operand.tmp 4) 0, type := 0, pos := "boot.go:60", after := #[], guard := none }) (v := ?tkv3001) rfl (by kernel_rfl) (by kernel_rfl) (by kernel_rfl) (fun _ _ _ h => h) (Or.inl ⟨by rfl, ?tky3001⟩) hH0 ?tkr3001
  case tky3001 => (intro w' hSw; clear hSw; go_simp; try with_reducible rfl)
  try simp only [Act.put, zqa, zqb, zqc]
  refine wpAnyH_take (i := 1) (oi := { dst := some 26, op := Op.load 3 (Operand.tmp 25), type := 3, pos := "boot.go:60", after := #[{ on := 0, ground := Ground.data }], guard := none }) (v := ?tkv3002) rfl (by kernel_rfl) (by kernel_rfl) (by kernel_rfl) (fun _ _ _ h => h) (Or.inl ⟨by rfl, ?tky3002⟩) hH0 ?tkr3002
  case tky3002 => (intro w' hSw; have z0 := HF.out _ hSw; clear hSw; go_simp; try with_reducible rfl)
  try simp only [Act.put, zqa, zqb, zqc]
  refine wpAnyH_take (i := 2) (oi := { dst := some 27, op := Op.fieldAddr 39 (Operand.tmp 1) 6, type := 0, pos := "boot.go:60", after := #[], guard := none }) (v := ?tkv3003) rfl (by kernel_rfl) (by kernel_rfl) (by kernel_rfl) (fun _ _ _ h => h) (Or.inl ⟨by rfl, ?tky3003⟩) hH0 ?tkr3003
  case tky3003 => (intro w' hSw; clear hSw; go_simp; try with_reducible rfl)
  try simp only [Act.put, zqa, zqb, zqc]
  refine wpAnyH_take (i := 3) (oi := { dst := some 28, op := Op.fieldAddr 37 (Operand.tmp 27) 1, type := 0, pos := "boot.go:60", after := #[{ on := 2, ground := Ground.data }], guard := none }) (v := ?tkv3004) rfl (by kernel_rfl) (by kernel_rfl) (by kernel_rfl) (fun _ _ _ h => h) (Or.inl ⟨by rfl, ?tky3004⟩) hH0 ?tkr3004
  case tky3004 => (intro w' hSw; clear hSw; go_simp; try with_reducible rfl)
  try simp only [Act.put, zqa, zqb, zqc]
  refine wpAnyH_take (i := 4) (oi := { dst := some 29, op := Op.load 32 (Operand.tmp 28), type := 32, pos := "boot.go:60", after := #[{ on := 3, ground := Ground.data }], guard := none }) (v := ?tkv3005) rfl (by kernel_rfl) (by kernel_rfl) (by kernel_rfl) (fun _ _ _ h => h) (Or.inl ⟨by rfl, ?tky3005⟩) hH0 ?tkr3005
  case tky3005 => (intro w' hSw; have z0 := HF.out _ hSw; clear hSw; go_simp; try with_reducible rfl)
  try simp only [Act.put, zqa, zqb, zqc]
  refine wpAnyH_take (i := 5) (oi := { dst := some 30, op := Op.fieldAddr 39 (Operand.tmp 1) 6, type := 0, pos := "boot.go:60", after := #[], guard := none }) (v := ?tkv3006) rfl (by kernel_rfl) (by kernel_rfl) (by kernel_rfl) (fun _ _ _ h => h) (Or.inl ⟨by rfl, ?tky3006⟩) hH0 ?tkr3006
  case tky3006 => (intro w' hSw; clear hSw; go_simp; try with_reducible rfl)
  try simp only [Act.put, zqa, zqb, zqc]
  refine wpAnyH_take (i := 6) (oi := { dst := some 31, op := Op.fieldAddr 37 (Operand.tmp 30) 2, type := 0, pos := "boot.go:60", after := #[{ on := 5, ground := Ground.data }], guard := none }) (v := ?tkv3007) rfl (by kernel_rfl) (by kernel_rfl) (by kernel_rfl) (fun _ _ _ h => h) (Or.inl ⟨by rfl, ?tky3007⟩) hH0 ?tkr3007
  case tky3007 => (intro w' hSw; clear hSw; go_simp; try with_reducible rfl)
  try simp only [Act.put, zqa, zqb, zqc]
  refine wpAnyH_take (i := 7) (oi := { dst := some 32, op := Op.load 3 (Operand.tmp 31), type := 3, pos := "boot.go:60", after := #[{ on := 6, ground := Ground.data }], guard := none }) (v := ?tkv3008) rfl (by kernel_rfl) (by kernel_rfl) (by kernel_rfl) (fun _ _ _ h => h) (Or.inl ⟨by rfl, ?tky3008⟩) hH0 ?tkr3008
  case tky3008 => (intro w' hSw; have z0 := HF.out _ hSw; clear hSw; go_simp; try with_reducible rfl)
  try simp only [Act.put, zqa, zqb, zqc]
  refine wpAnyH_take (i := 8) (oi := { dst := some 33, op := Op.fieldAddr 39 (Operand.tmp 1) 6, type := 0, pos := "boot.go:60", after := #[], guard := none }) (v := ?tkv3009) rfl (by kernel_rfl) (by kernel_rfl) (by kernel_rfl) (fun _ _ _ h => h) (Or.inl ⟨by rfl, ?tky3009⟩) hH0 ?tkr3009
  case tky3009 => (intro w' hSw; clear hSw; go_simp; try with_reducible rfl)
  try simp only [Act.put, zqa, zqb, zqc]
  refine wpAnyH_take (i := 9) (oi := { dst := some 34, op := Op.fieldAddr 37 (Operand.tmp 33) 5, type := 0, pos := "boot.go:60", after := #[{ on := 8, ground := Ground.data }], guard := none }) (v := ?tkv3010) rfl (by kernel_rfl) (by kernel_rfl) (by kernel_rfl) (fun _ _ _ h => h) (Or.inl ⟨by rfl, ?tky3010⟩) hH0 ?tkr3010
  case tky3010 => (intro w' hSw; clear hSw; go_simp; try with_reducible rfl)
  try simp only [Act.put, zqa, zqb, zqc]
  refine wpAnyH_take (i := 10) (oi := { dst := some 35, op := Op.load 22 (Operand.tmp 34), type := 22, pos := "boot.go:60", after := #[{ on := 9, ground := Ground.data }], guard := none }) (v := ?tkv3011) rfl (by kernel_rfl) (by kernel_rfl) (by kernel_rfl) (fun _ _ _ h => h) (Or.inl ⟨by rfl, ?tky3011⟩) hH0 ?tkr3011
  case tky3011 => (intro w' hSw; have z0 := HF.out _ hSw; clear hSw; go_simp; try with_reducible rfl)
  try simp only [Act.put, zqa, zqb, zqc]
  refine wpAnyH_take (i := 13) (oi := { dst := some 38, op := Op.fieldAddr 39 (Operand.tmp 4) 4, type := 0, pos := "boot.go:60", after := #[], guard := none }) (v := ?tkv3012) rfl (by kernel_rfl) (by kernel_rfl) (by kernel_rfl) (fun _ _ _ h => h) (Or.inl ⟨by rfl, ?tky3012⟩) hH0 ?tkr3012
  case tky3012 => (intro w' hSw; clear hSw; go_simp; try with_reducible rfl)
  try simp only [Act.put, zqa, zqb, zqc]
  refine wpAnyH_ready (rs := [11]) (by kernel_rfl) (by simp) ?_
  refine AllReadyH.cons (o := { dst := some 36, op := Op.call { callee := Callee.value (Operand.func 27), args := #[Operand.tmp 35], argTypes := #[22] }, type := 22, pos := "boot.go:60", after := #[{ on := 10, ground := Ground.data }], guard := none }) rfl (fun K hK => ?_) AllReadyH.nil
  go_simp
  refine (clone_any wd3000.heap.size L.m.h.length ch Ah L.m.h wd3000 ((HRH.out wd3000 (hH0))) (by have := HL.out.2.2; omega) (Nat.le_refl _)).mono ?_
  rintro e' wn3013 ⟨Ak3013, nk3013, ck3013, rfl, hn3013, ho3013, hb3013⟩
  have RK3013 : Hid (RowP wn3013 (fun b => w.heap.size + 1 < b ∧ b ≠ g4) Ak3013 nk3013 (bv L.m.h)) := Lib.hid (own_rowR ho3013 (Nat.lt_of_lt_of_le LG4.out (hH0).g) (Nat.lt_of_lt_of_le LG1.out (hH0).g))
  have C43013 := Lib.hid (CD.out.below hb3013)
  have HN3013 := Lib.hid hn3013.out
  clear ho3013 hn3013
  go_simp
  have hS3013 : AS w g4 cs (1 - L.act) wn3013 := (hH0).below hb3013
  refine hK.out _ _ hS3013 (fun hH3013 => ?_)
  have hH3013 : AS w g4 cs (1 - L.act) wn3013 := hH3013
  clear hK K hS3013
  try simp only [Act.put, zqa, zqb, zqc]
  refine wpAnyH_take (i := 12) (oi := { dst := some 37, op := Op.build 34 #[(0, Operand.tmp 29), (1, Operand.tmp 32), (2, Operand.tmp 36)], type := 34, pos := "boot.go:60", after := #[{ on := 4, ground := Ground.data }, { on := 7, ground := Ground.data }, { on := 11, ground := Ground.data }], guard := none }) (v := ?tkv3014) rfl (by kernel_rfl) (by kernel_rfl) (by kernel_rfl) (fun _ _ _ h => h) (Or.inl ⟨by rfl, ?tky3014⟩) hH3013 ?tkr3014
  case tky3014 => (intro w' hSw; clear hSw; go_simp; try with_reducible rfl)
  try simp only [Act.put, zqa, zqb, zqc]
  refine wpAnyH_take (i := 14) (oi := { dst := some 39, op := Op.indexAddr 35 (Operand.tmp 38) (Operand.tmp 26), type := 0, pos := "boot.go:60", after := #[{ on := 13, ground := Ground.data }, { on := 1, ground := Ground.data }, { on := 0, ground := Ground.phase }, { on := 1, ground := Ground.phase }, { on := 2, ground := Ground.phase }, { on := 3, ground := Ground.phase }, { on := 4, ground := Ground.phase }, { on := 5, ground := Ground.phase }, { on := 6, ground := Ground.phase }, { on := 7, ground := Ground.phase }, { on := 8, ground := Ground.phase }, { on := 9, ground := Ground.phase }, { on := 10, ground := Ground.phase }, { on := 11, ground := Ground.phase }, { on := 12, ground := Ground.phase }], guard := none }) (v := ?tkv3015) rfl (by kernel_rfl) (by kernel_rfl) (by kernel_rfl) (fun _ _ _ h => h) (Or.inl ⟨by rfl, ?tky3015⟩) hH3013 ?tkr3015
  case tky3015 => (intro w' hSw; clear hSw; go_simp; try with_reducible rfl)
  try simp only [Act.put, zqa, zqb, zqc]
  refine wpAnyH_ready (rs := [15]) (by kernel_rfl) (by simp) ?_
  refine AllReadyH.cons (o := { dst := none, op := Op.store 34 (Operand.tmp 39) (Operand.tmp 37), type := 0, pos := "boot.go:60", after := #[{ on := 14, ground := Ground.data }, { on := 12, ground := Ground.data }, { on := 11, ground := Ground.chain }, { on := 0, ground := Ground.phase }, { on := 1, ground := Ground.phase }, { on := 2, ground := Ground.phase }, { on := 3, ground := Ground.phase }, { on := 4, ground := Ground.phase }, { on := 5, ground := Ground.phase }, { on := 6, ground := Ground.phase }, { on := 7, ground := Ground.phase }, { on := 8, ground := Ground.phase }, { on := 9, ground := Ground.phase }, { on := 10, ground := Ground.phase }, { on := 11, ground := Ground.phase }, { on := 12, ground := Ground.phase }], guard := none }) rfl (fun K hK => ?_) AllReadyH.nil
  rw [if_pos (by rfl)]
  refine wp_store_mid _ _ _ rfl g4 7 #[.int .u32 (L.m.v : Int), .int .i64 L.m.l, .slice Ak3013 nk3013 ck3013] rfl rfl (C43013.out.there 7 (by omega)) (by kernel_rfl) (by simp [Value.oneCell']) ?_
  have hS3016 : AS w g4 cs (1 - L.act) (wn3013.setCells g4 7 (#[.int .u32 (L.m.v : Int), .int .i64 L.m.l, .slice Ak3013 nk3013 ck3013] : Array Value).toList) := ((hH3013).set3 7 (by omega) LG.out _ _ _)
  refine hK.out _ _ hS3016 (fun hH3016 => ?_)
  have hH3016 : AS w g4 cs (1 - L.act) (wn3013.setCells g4 7 (#[.int .u32 (L.m.v : Int), .int .i64 L.m.l, .slice Ak3013 nk3013 ck3013] : Array Value).toList) := hH3016
  clear hK K hS3016
  refine wpAnyH_done (by kernel_rfl) ?_ _
  refine NoPanic.normal ?_
  have F4 := Lib.hid (CS.put1 (v := L.m.v) (l := L.m.l) (c := ck3013) C43013.out RK3013.out HN3013.out)
  have BF : Hid (AS w g4 cs (1 - L.act) (wn3013.setCells g4 7 [.int .u32 (L.m.v : Int), .int .i64 L.m.l, .slice Ak3013 nk3013 ck3013])) := Lib.hid (hH3016)
  clear hH3016
  clear C43013 RK3013
  obtain ⟨cF, hcF⟩ : ∃ x : Array Value, ((c4.setIfInBounds 7 (.int .u32 (L.m.v : Int))).setIfInBounds (7 + 1) (.int .i64 L.m.l)).setIfInBounds (7 + 2) (.slice Ak3013 nk3013 ck3013) = x := ⟨_, rfl⟩
  rw [hcF] at F4
  have XF := Lib.hid F4.out.x4
  have SF := Lib.hid F4.out.s4
  have IF := Lib.hid SF.out.inf
  have OF := Lib.hid SF.out.one
  have ZF : Hid (17 = cF.size) := Lib.hid SF.out.size.symm
  have YF := Lib.hid BF.out.y
  have BB := Lib.hid BF.out.b
  clear F4 BF
  generalize wn3013.setCells g4 7 [.int .u32 (L.m.v : Int), .int .i64 L.m.l, .slice Ak3013 nk3013 ck3013] = wE at *
  go_wp2_with (first
   | ((with_reducible show wpList _ _ _ _ _ _); refine wpList_load_row (o := ⟨some 40, _, _, _, _, _⟩) rfl _ (.tmp 4) rfl (g4) rfl _ _ _ _ (XF.out) Tryz.underlying39 rfl IF.out ?_)
   | ((with_reducible show wpList _ _ _ _ _ _); refine wpList_store_row rfl _ (.tmp 2) (.tmp 40) rfl (w.heap.size + 1) cF rfl rfl _ _ YF.out IF.out ZF.out OF.out ?_))
  have hrow : (wE.setRow (w.heap.size + 1) cF).heap[w.heap.size + 1]? = some (.cells cF 39 (0, 0)) := setRow_heap _ _ _ _ _ _ YF.out
  refine bodyPost_ret (results_cell_tmp_row rfl _ _ (w.heap.size + 1) _ _ (0, 0) _ rfl hrow Tryz.underlying39 rfl IF.out) rfl ?_
  refine ⟨cF, rfl, Lib.hid ?_, Lib.hid (below_setRow2 BB.out (Nat.le_succ _) _)⟩
  rw [HFIN.out]
  exact (SF.out.keep (by simp) fun b hb _ => setRow_other wE (w.heap.size + 1) b cF (Nat.ne_of_gt hb.1)).imp fun b _ hp => by omega
 ·have D : L.drop = { L with on := false, m := LMan.zero } := by unfold LSt.drop; rw [if_pos HM.out]
  have HFIN : Hid (LSt.activate L = { L with act := 1 - L.act, trial := 3, on := false, m := LMan.zero, v0 := L.m.v, l0 := L.m.l, h0 := L.m.h }) := Lib.hid (by unfold LSt.activate; rw [ha]; rfl)
  rw [D] at S4
  clear D
  have q9 : (1 : Int) - L.act = 0 := by omega
  go_upto_region 8 with fail
  generalize hc4 : (c1.setIfInBounds 0 (.int .i64 (1 - L.act))).setIfInBounds 1 (.int .i64 3) = c4 at *
  have HF : Hid (∀ W, AS w g4 cs (1 - L.act) W → W.cell? ⟨g4, 0, none⟩ = some (.int .i64 0) ∧ W.cell? ⟨w.heap.size, 12, none⟩ = some (.int .u32 (L.m.v : Int)) ∧ W.cell? ⟨w.heap.size, 13, none⟩ = some (.int .i64 L.m.l) ∧ W.cell? ⟨w.heap.size, 16, none⟩ = some (.slice Ah L.m.h.length ch)) := Lib.hid fun W hW => by
   obtain ⟨cc, h17, h0, hx⟩ := hW.x4
   exact ⟨by rw [cell_of_row W g4 0 _ _ (0, 0) hx, h0, q9], (cell_of_row W _ 12 _ _ (0, 0) hW.xs).trans C12.out, (cell_of_row W _ 13 _ _ (0, 0) hW.xs).trans C13.out, (cell_of_row W _ 16 _ _ (0, 0) hW.xs).trans C16.out⟩
  clear q9
  have CS4 : Hid (CS w g4 c4 { L with act := 1 - L.act, trial := 3, on := false, m := LMan.zero } wB) := Lib.hid ⟨X4, S4⟩
  clear X4 S4 hc4
  refine wp_region_noPanic ?_
  refine wp_region_held_drew (S := (fun W => AS w g4 cs (1 - L.act) W)) (by kernel_rfl) (KA.out.below (Below.refl _ _).drew) (fun hH0 => ?_)
  have hH0 : AS w g4 cs (1 - L.act) wB.drew := hH0
  have CD := Lib.hid (CS4.out.below ((Below.refl wB.heap.size wB).drew))
  generalize wB.drew = wd5000 at *
  refine wpAnyH_take (i := 0) (oi := { dst := some 25, op := Op.fieldAddr 39 (Operand.tmp 4) 0, type := 0, pos := "boot.go:60", after := #[], guard := none }) (v := ?tkv5001) rfl (by kernel_rfl) (by kernel_rfl) (by kernel_rfl) (fun _ _ _ h => h) (Or.inl ⟨by rfl, ?tky5001⟩) hH0 ?tkr5001
  case tky5001 => (intro w' hSw; clear hSw; go_simp; try with_reducible rfl)
  try simp only [Act.put, zqa, zqb, zqc]
  refine wpAnyH_take (i := 1) (oi := { dst := some 26, op := Op.load 3 (Operand.tmp 25), type := 3, pos := "boot.go:60", after := #[{ on := 0, ground := Ground.data }], guard := none }) (v := ?tkv5002) rfl (by kernel_rfl) (by kernel_rfl) (by kernel_rfl) (fun _ _ _ h => h) (Or.inl ⟨by rfl, ?tky5002⟩) hH0 ?tkr5002
  case tky5002 => (intro w' hSw; have z0 := HF.out _ hSw; clear hSw; go_simp; try with_reducible rfl)
  try simp only [Act.put, zqa, zqb, zqc]
  refine wpAnyH_take (i := 2) (oi := { dst := some 27, op := Op.fieldAddr 39 (Operand.tmp 1) 6, type := 0, pos := "boot.go:60", after := #[], guard := none }) (v := ?tkv5003) rfl (by kernel_rfl) (by kernel_rfl) (by kernel_rfl) (fun _ _ _ h => h) (Or.inl ⟨by rfl, ?tky5003⟩) hH0 ?tkr5003
  case tky5003 => (intro w' hSw; clear hSw; go_simp; try with_reducible rfl)
  try simp only [Act.put, zqa, zqb, zqc]
  refine wpAnyH_take (i := 3) (oi := { dst := some 28, op := Op.fieldAddr 37 (Operand.tmp 27) 1, type := 0, pos := "boot.go:60", after := #[{ on := 2, ground := Ground.data }], guard := none }) (v := ?tkv5004) rfl (by kernel_rfl) (by kernel_rfl) (by kernel_rfl) (fun _ _ _ h => h) (Or.inl ⟨by rfl, ?tky5004⟩) hH0 ?tkr5004
  case tky5004 => (intro w' hSw; clear hSw; go_simp; try with_reducible rfl)
  try simp only [Act.put, zqa, zqb, zqc]
  refine wpAnyH_take (i := 4) (oi := { dst := some 29, op := Op.load 32 (Operand.tmp 28), type := 32, pos := "boot.go:60", after := #[{ on := 3, ground := Ground.data }], guard := none }) (v := ?tkv5005) rfl (by kernel_rfl) (by kernel_rfl) (by kernel_rfl) (fun _ _ _ h => h) (Or.inl ⟨by rfl, ?tky5005⟩) hH0 ?tkr5005
  case tky5005 => (intro w' hSw; have z0 := HF.out _ hSw; clear hSw; go_simp; try with_reducible rfl)
  try simp only [Act.put, zqa, zqb, zqc]
  refine wpAnyH_take (i := 5) (oi := { dst := some 30, op := Op.fieldAddr 39 (Operand.tmp 1) 6, type := 0, pos := "boot.go:60", after := #[], guard := none }) (v := ?tkv5006) rfl (by kernel_rfl) (by kernel_rfl) (by kernel_rfl) (fun _ _ _ h => h) (Or.inl ⟨by rfl, ?tky5006⟩) hH0 ?tkr5006
  case tky5006 => (intro w' hSw; clear hSw; go_simp; try with_reducible rfl)
  try simp only [Act.put, zqa, zqb, zqc]
  refine wpAnyH_take (i := 6) (oi := { dst := some 31, op := Op.fieldAddr 37 (Operand.tmp 30) 2, type := 0, pos := "boot.go:60", after := #[{ on := 5, ground := Ground.data }], guard := none }) (v := ?tkv5007) rfl (by kernel_rfl) (by kernel_rfl) (by kernel_rfl) (fun _ _ _ h => h) (Or.inl ⟨by rfl, ?tky5007⟩) hH0 ?tkr5007
  case tky5007 => (intro w' hSw; clear hSw; go_simp; try with_reducible rfl)
  try simp only [Act.put, zqa, zqb, zqc]
  refine wpAnyH_take (i := 7) (oi := { dst := some 32, op := Op.load 3 (Operand.tmp 31), type := 3, pos := "boot.go:60", after := #[{ on := 6, ground := Ground.data }], guard := none }) (v := ?tkv5008) rfl (by kernel_rfl) (by kernel_rfl) (by kernel_rfl) (fun _ _ _ h => h) (Or.inl ⟨by rfl, ?tky5008⟩) hH0 ?tkr5008
  case tky5008 => (intro w' hSw; have z0 := HF.out _ hSw; clear hSw; go_simp; try with_reducible rfl)
  try simp only [Act.put, zqa, zqb, zqc]
  refine wpAnyH_take (i := 8) (oi := { dst := some 33, op := Op.fieldAddr 39 (Operand.tmp 1) 6, type := 0, pos := "boot.go:60", after := #[], guard := none }) (v := ?tkv5009) rfl (by kernel_rfl) (by kernel_rfl) (by kernel_rfl) (fun _ _ _ h => h) (Or.inl ⟨by rfl, ?tky5009⟩) hH0 ?tkr5009
  case tky5009 => (intro w' hSw; clear hSw; go_simp; try with_reducible rfl)
  try simp only [Act.put, zqa, zqb, zqc]
  refine wpAnyH_take (i := 9) (oi := { dst := some 34, op := Op.fieldAddr 37 (Operand.tmp 33) 5, type := 0, pos := "boot.go:60", after := #[{ on := 8, ground := Ground.data }], guard := none }) (v := ?tkv5010) rfl (by kernel_rfl) (by kernel_rfl) (by kernel_rfl) (fun _ _ _ h => h) (Or.inl ⟨by rfl, ?tky5010⟩) hH0 ?tkr5010
  case tky5010 => (intro w' hSw; clear hSw; go_simp; try with_reducible rfl)
  try simp only [Act.put, zqa, zqb, zqc]
  refine wpAnyH_take (i := 10) (oi := { dst := some 35, op := Op.load 22 (Operand.tmp 34), type := 22, pos := "boot.go:60", after := #[{ on := 9, ground := Ground.data }], guard := none }) (v := ?tkv5011) rfl (by kernel_rfl) (by kernel_rfl) (by kernel_rfl) (fun _ _ _ h => h) (Or.inl ⟨by rfl, ?tky5011⟩) hH0 ?tkr5011
  case tky5011 => (intro w' hSw; have z0 := HF.out _ hSw; clear hSw; go_simp; try with_reducible rfl)
  try simp only [Act.put, zqa, zqb, zqc]
  refine wpAnyH_take (i := 13) (oi := { dst := some 38, op := Op.fieldAddr 39 (Operand.tmp 4) 4, type := 0, pos := "boot.go:60", after := #[], guard := none }) (v := ?tkv5012) rfl (by kernel_rfl) (by kernel_rfl) (by kernel_rfl) (fun _ _ _ h => h) (Or.inl ⟨by rfl, ?tky5012⟩) hH0 ?tkr5012
  case tky5012 => (intro w' hSw; clear hSw; go_simp; try with_reducible rfl)
  try simp only [Act.put, zqa, zqb, zqc]
  refine wpAnyH_ready (rs := [11]) (by kernel_rfl) (by simp) ?_
  refine AllReadyH.cons (o := { dst := some 36, op := Op.call { callee := Callee.value (Operand.func 27), args := #[Operand.tmp 35], argTypes := #[22] }, type := 22, pos := "boot.go:60", after := #[{ on := 10, ground := Ground.data }], guard := none }) rfl (fun K hK => ?_) AllReadyH.nil
  go_simp
  refine (clone_any wd5000.heap.size L.m.h.length ch Ah L.m.h wd5000 ((HRH.out wd5000 (hH0))) (by have := HL.out.2.2; omega) (Nat.le_refl _)).mono ?_
  rintro e' wn5013 ⟨Ak5013, nk5013, ck5013, rfl, hn5013, ho5013, hb5013⟩
  have RK5013 : Hid (RowP wn5013 (fun b => w.heap.size + 1 < b ∧ b ≠ g4) Ak5013 nk5013 (bv L.m.h)) := Lib.hid (own_rowR ho5013 (Nat.lt_of_lt_of_le LG4.out (hH0).g) (Nat.lt_of_lt_of_le LG1.out (hH0).g))
  have C45013 := Lib.hid (CD.out.below hb5013)
  have HN5013 := Lib.hid hn5013.out
  clear ho5013 hn5013
  go_simp
  have hS5013 : AS w g4 cs (1 - L.act) wn5013 := (hH0).below hb5013
  refine hK.out _ _ hS5013 (fun hH5013 => ?_)
  have hH5013 : AS w g4 cs (1 - L.act) wn5013 := hH5013
  clear hK K hS5013
  try simp only [Act.put, zqa, zqb, zqc]
  refine wpAnyH_take (i := 12) (oi := { dst := some 37, op := Op.build 34 #[(0, Operand.tmp 29), (1, Operand.tmp 32), (2, Operand.tmp 36)], type := 34, pos := "boot.go:60", after := #[{ on := 4, ground := Ground.data }, { on := 7, ground := Ground.data }, { on := 11, ground := Ground.data }], guard := none }) (v := ?tkv5014) rfl (by kernel_rfl) (by kernel_rfl) (by kernel_rfl) (fun _ _ _ h => h) (Or.inl ⟨by rfl, ?tky5014⟩) hH5013 ?tkr5014
  case tky5014 => (intro w' hSw; clear hSw; go_simp; try with_reducible rfl)
  try simp only [Act.put, zqa, zqb, zqc]
  refine wpAnyH_take (i := 14) (oi := { dst := some 39, op := Op.indexAddr 35 (Operand.tmp 38) (Operand.tmp 26), type := 0, pos := "boot.go:60", after := #[{ on := 13, ground := Ground.data }, { on := 1, ground := Ground.data }, { on := 0, ground := Ground.phase }, { on := 1, ground := Ground.phase }, { on := 2, ground := Ground.phase }, { on := 3, ground := Ground.phase }, { on := 4, ground := Ground.phase }, { on := 5, ground := Ground.phase }, { on := 6, ground := Ground.phase }, { on := 7, ground := Ground.phase }, { on := 8, ground := Ground.phase }, { on := 9, ground := Ground.phase }, { on := 10, ground := Ground.phase }, { on := 11, ground := Ground.phase }, { on := 12, ground := Ground.phase }], guard := none }) (v := ?tkv5015) rfl (by kernel_rfl) (by kernel_rfl) (by kernel_rfl) (fun _ _ _ h => h) (Or.inl ⟨by rfl, ?tky5015⟩) hH5013 ?tkr5015
  case tky5015 => (intro w' hSw; clear hSw; go_simp; try with_reducible rfl)
  try simp only [Act.put, zqa, zqb, zqc]
  refine wpAnyH_ready (rs := [15]) (by kernel_rfl) (by simp) ?_
  refine AllReadyH.cons (o := { dst := none, op := Op.store 34 (Operand.tmp 39) (Operand.tmp 37), type := 0, pos := "boot.go:60", after := #[{ on := 14, ground := Ground.data }, { on := 12, ground := Ground.data }, { on := 11, ground := Ground.chain }, { on := 0, ground := Ground.phase }, { on := 1, ground := Ground.phase }, { on := 2, ground := Ground.phase }, { on := 3, ground := Ground.phase }, { on := 4, ground := Ground.phase }, { on := 5, ground := Ground.phase }, { on := 6, ground := Ground.phase }, { on := 7, ground := Ground.phase }, { on := 8, ground := Ground.phase }, { on := 9, ground := Ground.phase }, { on := 10, ground := Ground.phase }, { on := 11, ground := Ground.phase }, { on := 12, ground := Ground.phase }], guard := none }) rfl (fun K hK => ?_) AllReadyH.nil
  rw [if_pos (by rfl)]
  refine wp_store_mid _ _ _ rfl g4 4 #[.int .u32 (L.m.v : Int), .int .i64 L.m.l, .slice Ak5013 nk5013 ck5013] rfl rfl (C45013.out.there 4 (by omega)) (by kernel_rfl) (by simp [Value.oneCell']) ?_
  have hS5016 : AS w g4 cs (1 - L.act) (wn5013.setCells g4 4 (#[.int .u32 (L.m.v : Int), .int .i64 L.m.l, .slice Ak5013 nk5013 ck5013] : Array Value).toList) := ((hH5013).set3 4 (by omega) LG.out _ _ _)
  refine hK.out _ _ hS5016 (fun hH5016 => ?_)
  have hH5016 : AS w g4 cs (1 - L.act) (wn5013.setCells g4 4 (#[.int .u32 (L.m.v : Int), .int .i64 L.m.l, .slice Ak5013 nk5013 ck5013] : Array Value).toList) := hH5016
  clear hK K hS5016
  refine wpAnyH_done (by kernel_rfl) ?_ _
  refine NoPanic.normal ?_
  have F4 := Lib.hid (CS.put0 (v := L.m.v) (l := L.m.l) (c := ck5013) C45013.out RK5013.out HN5013.out)
  have BF : Hid (AS w g4 cs (1 - L.act) (wn5013.setCells g4 4 [.int .u32 (L.m.v : Int), .int .i64 L.m.l, .slice Ak5013 nk5013 ck5013])) := Lib.hid (hH5016)
  clear hH5016
  clear C45013 RK5013
  obtain ⟨cF, hcF⟩ : ∃ x : Array Value, ((c4.setIfInBounds 4 (.int .u32 (L.m.v : Int))).setIfInBounds (4 + 1) (.int .i64 L.m.l)).setIfInBounds (4 + 2) (.slice Ak5013 nk5013 ck5013) = x := ⟨_, rfl⟩
  rw [hcF] at F4
  have XF := Lib.hid F4.out.x4
  have SF := Lib.hid F4.out.s4
  have IF := Lib.hid SF.out.inf
  have OF := Lib.hid SF.out.one
  have ZF : Hid (17 = cF.size) := Lib.hid SF.out.size.symm
  have YF := Lib.hid BF.out.y
  have BB := Lib.hid BF.out.b
  clear F4 BF
  generalize wn5013.setCells g4 4 [.int .u32 (L.m.v : Int), .int .i64 L.m.l, .slice Ak5013 nk5013 ck5013] = wE at *
  go_wp2_with (first
   | ((with_reducible show wpList _ _ _ _ _ _); refine wpList_load_row (o := ⟨some 40, _, _, _, _, _⟩) rfl _ (.tmp 4) rfl (g4) rfl _ _ _ _ (XF.out) Tryz.underlying39 rfl IF.out ?_)
   | ((with_reducible show wpList _ _ _ _ _ _); refine wpList_store_row rfl _ (.tmp 2) (.tmp 40) rfl (w.heap.size + 1) cF rfl rfl _ _ YF.out IF.out ZF.out OF.out ?_))
  have hrow : (wE.setRow (w.heap.size + 1) cF).heap[w.heap.size + 1]? = some (.cells cF 39 (0, 0)) := setRow_heap _ _ _ _ _ _ YF.out
  refine bodyPost_ret (results_cell_tmp_row rfl _ _ (w.heap.size + 1) _ _ (0, 0) _ rfl hrow Tryz.underlying39 rfl IF.out) rfl ?_
  refine ⟨cF, rfl, Lib.hid ?_, Lib.hid (below_setRow2 BB.out (Nat.le_succ _) _)⟩
  rw [HFIN.out]
  exact (SF.out.keep (by simp) fun b hb _ => setRow_other wE (w.heap.size + 1) b cF (Nat.ne_of_gt hb.1)).imp fun b _ hp => by omega
end Go.Proofs.YtmncpgfdpcckpaaGreatDoor
namespace Go.Proofs.YtmncpgfdpcckpaaGreatDoor
open Go.RowKit Sh
def firstL (v n : Nat) (h : List UInt8) : LSt := ⟨0, 0, 0, 0, v, (n : Int), h, 0, 0, [], false, LMan.zero⟩
set_option maxHeartbeats 400000 in
theorem fits_yes (n : Nat) (h1 : 1 ≤ n) (h2 : n ≤ 512) (w : World) : Calls Tryz.prog 95 #[.int .i64 (n : Int)] w fun e w' => e = .returned (.bool true) ∧ w = w' := by
 go_enter Tryz.func95, Tryz.ntmps95
 have q1 : decide (1 ≤ (n : Int)) = true := by simp; omega
 have q2 : decide ((n : Int) ≤ 512) = true := by simp; omega
 go_wp2_with fail
 go_ret
 exact ⟨rfl, rfl⟩
def SlotOk (v n : Nat) (l : List UInt8) (w : World) (e : Ending) (w' : World) : Prop :=
 ∃ A' c', e = .returned (.tuple #[.agg #[.int .u32 (v : Int), .int .i64 (n : Int), .slice A' 32 c'], .bool true]) ∧ Hid (RowP w' (fun b => w.heap.size ≤ b) A' 32 (bv (Sha.D l))) ∧ Hid (Below w.heap.size w w')
set_option maxHeartbeats 1600000 in
theorem slotOf_yes (v n cap : Nat) (A : Option Addr) (l : List UInt8) (w : World) (ht : Tab w) (hl : Row w w.heap.size A n (bv l)) (h1 : 1 ≤ n) (h2 : n ≤ 512) :
  Calls Tryz.prog 58 #[.int .u32 (v : Int), .slice A n cap] w (SlotOk v n l w) := by
 have hb0 : Below w.heap.size w (w.alloc (.cells #[.int .u32 0, .int .i64 0, .slice none 0 0] 34)) := (Below.refl _ _).alloc (Nat.le_refl _) _
 have HT := Lib.hid (ht.below hb0 ht.1)
 have HL := Lib.hid ((hl.below hb0).more hb0.size)
 have X0 := Lib.hid (heap_alloc_new w (.cells #[.int .u32 0, .int .i64 0, .slice none 0 0] 34))
 have B0 := Lib.hid hb0
 have H1 := Lib.hid h1
 have H2 := Lib.hid h2
 clear hb0 ht hl h1 h2
 go_enter Tryz.func58, Tryz.ntmps58
 go_wp2_with (go_at_call 95; refine (fits_yes n H1.out H2.out _).mono ?_; rintro e w' ⟨rfl, rfl⟩)
 generalize w.alloc (.cells #[.int .u32 0, .int .i64 0, .slice none 0 0] 34) = w0 at *
 refine (Sh.sum_any w0.heap.size n cap A l w0 HT.out HL.out (Nat.le_refl _) (by have := H2.out; omega)).mono ?_
 rintro e w1 ⟨A', c', rfl, hown, hb⟩
 have X1 := Lib.hid ((hb.out.block w.heap.size (Array.getElem?_eq_some_iff.1 X0.out).1).trans X0.out)
 have B1 := Lib.hid (B0.out.trans (hb.out.mono B0.out.size))
 have hx0 : w.heap.size < w0.heap.size := (Array.getElem?_eq_some_iff.1 X0.out).1
 have R1 : Hid (RowP w1 (fun b => w0.heap.size ≤ b) A' 32 (bv (Sha.D l))) := by
  refine ⟨(Row.of_own hown.out).1, fun hn => ?_⟩
  obtain ⟨b, o, e, hlt, hc⟩ := (Row.of_own hown.out).2 hn
  exact ⟨b, o, e, hlt, (hown.out.lt b (by rw [e]; rfl)).1, hc⟩
 have LX := Lib.hid hx0
 clear hown hb X0 B0 hx0
 go_wp2_with ((with_reducible show wpList _ _ _ _ _ _); refine wpList_store_row rfl _ (.tmp 4) (.tmp 16) rfl w.heap.size #[.int .u32 (v : Int), .int .i64 (n : Int), .slice A' 32 c'] rfl rfl _ _ X1.out (by kernel_rfl) (by rfl) (by simp [Value.oneCell']) ?_)
 have hrow : (w1.setRow w.heap.size #[.int .u32 (v : Int), .int .i64 (n : Int), .slice A' 32 c']).heap[w.heap.size]? = some (.cells #[.int .u32 (v : Int), .int .i64 (n : Int), .slice A' 32 c'] 34 (0, 0)) := setRow_heap _ _ _ _ _ _ X1.out
 refine bodyPost_ret (results_cell_tmp_row rfl _ _ (w.heap.size) _ _ (0, 0) _ rfl hrow Tryz.underlying34 rfl (by kernel_rfl)) rfl ?_
 exact ⟨A', c', rfl, Lib.hid ((R1.out.keep (by simp) fun b hb _ => setRow_other _ _ _ _ (by have := LX.out; omega)).imp fun b _ hb => by have := LX.out; omega), Lib.hid (below_setRow2 B1.out (Nat.le_refl _) _)⟩
set_option maxHeartbeats 1600000 in
theorem first_yes (v n cap : Nat) (A : Option Addr) (l : List UInt8) (w : World) (ht : Tab w) (hl : Row w w.heap.size A n (bv l)) (h1 : 1 ≤ n) (h2 : n ≤ 512) :
  Calls Tryz.prog 32 #[.int .u32 (v : Int), .slice A n cap] w (RetSV (firstL v n (Sha.D l)) (.bool true) w) := by
 have hb0 : Below w.heap.size w (w.alloc (.cells #[.int .i64 0, .int .i64 0, .int .u32 0, .int .u32 0, .int .u32 0, .int .i64 0, .slice none 0 0, .int .u32 0, .int .i64 0, .slice none 0 0, .bool false, .int .u32 0, .int .u32 0, .int .i64 0, .int .i64 0, .int .i64 0, .slice none 0 0] 39)) := (Below.refl _ _).alloc (Nat.le_refl _) _
 have HT := Lib.hid (ht.below hb0 ht.1)
 have HL := Lib.hid ((hl.below hb0).more hb0.size)
 have X0 := Lib.hid (heap_alloc_new w (.cells #[.int .i64 0, .int .i64 0, .int .u32 0, .int .u32 0, .int .u32 0, .int .i64 0, .slice none 0 0, .int .u32 0, .int .i64 0, .slice none 0 0, .bool false, .int .u32 0, .int .u32 0, .int .i64 0, .int .i64 0, .int .i64 0, .slice none 0 0] 39))
 have B0 := Lib.hid hb0
 have H1 := Lib.hid h1
 have H2 := Lib.hid h2
 clear hb0 ht hl h1 h2
 go_enter Tryz.func32, Tryz.ntmps32
 go_wp2_with fail
 generalize w.alloc (.cells #[.int .i64 0, .int .i64 0, .int .u32 0, .int .u32 0, .int .u32 0, .int .i64 0, .slice none 0 0, .int .u32 0, .int .i64 0, .slice none 0 0, .bool false, .int .u32 0, .int .u32 0, .int .i64 0, .int .i64 0, .int .i64 0, .slice none 0 0] 39) = w0 at *
 refine (slotOf_yes v n cap A l w0 HT.out HL.out H1.out H2.out).mono ?_
 rintro e w1 ⟨A', c', rfl, r1, hb⟩
 have X1 := Lib.hid ((hb.out.block w.heap.size (Array.getElem?_eq_some_iff.1 X0.out).1).trans X0.out)
 have B1 := Lib.hid (B0.out.trans (hb.out.mono B0.out.size))
 have LX : Hid (w.heap.size < w0.heap.size) := Lib.hid (Array.getElem?_eq_some_iff.1 X0.out).1
 have bA : Below w1.heap.size w1 (w1.alloc (.cells #[.int .u32 (v : Int), .int .i64 (n : Int), .slice A' 32 c'] 34)) := (Below.refl _ _).alloc (Nat.le_refl _) _
 have X2 := Lib.hid ((bA.block w.heap.size (Array.getElem?_eq_some_iff.1 X1.out).1).trans X1.out)
 have B2 := Lib.hid (B1.out.trans (bA.mono B1.out.size))
 have R2 := Lib.hid (r1.out.below bA)
 have S2 := Lib.hid (heap_alloc_new w1 (.cells #[.int .u32 (v : Int), .int .i64 (n : Int), .slice A' 32 c'] 34))
 clear r1 hb X0 B0 X1 B1 bA
 go_wp2_with (first
  | ((with_reducible show wpList _ _ _ _ _ _); refine wpList_store_new rfl rfl _ (.tmp 6) (.tmp 12) rfl _ _ #[.int .u32 (v : Int), .int .i64 (n : Int), .slice A' 32 c'] _ rfl rfl (by kernel_rfl) (by rfl) (by simp [Value.oneCell']) ?_)
  | ((with_reducible show wpList _ _ _ _ _ _); refine wpList_load_row (o := ⟨some 17, _, _, _, _, _⟩) rfl _ (.tmp 6) rfl w1.heap.size rfl _ _ _ _ S2.out Tryz.underlying34 rfl (by kernel_rfl) ?_)
  | ((with_reducible show wpList _ _ _ _ _ _); refine wpList_store_row rfl _ (.tmp 4) (.tmp 19) rfl (w.heap.size) #[.int .i64 0, .int .i64 0, .int .u32 0, .int .u32 0, .int .u32 (v : Int), .int .i64 (n : Int), .slice A' 32 c', .int .u32 0, .int .i64 0, .slice none 0 0, .bool false, .int .u32 0, .int .u32 0, .int .i64 0, .int .i64 0, .int .i64 0, .slice none 0 0] rfl rfl _ _ X2.out (by kernel_rfl) (by rfl) (by simp [Value.oneCell']) ?_))
 generalize w1.alloc (.cells #[.int .u32 (v : Int), .int .i64 (n : Int), .slice A' 32 c'] 34) = w2 at *
 have hlen := R2.out.1
 rw [bv_length] at hlen
 have ec : #[.int .i64 0, .int .i64 0, .int .u32 0, .int .u32 0, .int .u32 (v : Int), .int .i64 (n : Int), .slice A' 32 c', .int .u32 0, .int .i64 0, .slice none 0 0, .bool false, .int .u32 0, .int .u32 0, .int .i64 0, .int .i64 0, .int .i64 0, .slice none 0 0] = LSt.cells (firstL v n (Sha.D l)) A' c' none 0 none 0 := by simp only [LSt.cells, firstL, LMan.zero, hlen, List.length_nil]; rfl
 rw [ec]
 have hrow : (w2.setRow w.heap.size (LSt.cells (firstL v n (Sha.D l)) A' c' none 0 none 0)).heap[w.heap.size]? = some (.cells (LSt.cells (firstL v n (Sha.D l)) A' c' none 0 none 0) 39 (0, 0)) := setRow_heap _ _ _ _ _ _ X2.out
 refine bodyPost_ret (results_cell_tmp_row rfl _ _ (w.heap.size) _ _ (0, 0) _ rfl hrow Tryz.underlying39 rfl (by kernel_rfl)) rfl ?_
 refine ⟨_, rfl, Lib.hid ⟨A', c', none, 0, none, 0, rfl, ?_, .nil _ _ _, .nil _ _ _⟩, Lib.hid (below_setRow2 B2.out (Nat.le_refl _) _)⟩
 show RowP _ _ A' (Sha.D l).length (bv (Sha.D l))
 rw [hlen]
 exact (R2.out.keep (by simp) fun b hb _ => setRow_other _ _ _ _ (by have := LX.out; omega)).imp fun b _ hb => by have := LX.out; omega
theorem first_may (v n : Nat) (h : List UInt8) (hh : h.length = 32) (h1 : 1 ≤ n) (h2 : n ≤ 512) : (firstL v n h).may = true := by
 have a : decide (1 ≤ (n : Int)) = true := by simp; omega
 have b : decide ((n : Int) ≤ 512) = true := by simp; omega
 simp [LSt.may, firstL, mayB2, LMan.zero, filledB, emptyB, hh]
 exact ⟨a, b⟩
end Go.Proofs.YtmncpgfdpcckpaaGreatDoor
namespace Go.Proofs.YtmncpgfdpcckpaaGreatDoor
open Go.RowKit
theorem activate_may {L : LSt} (h : L.may = true) (ho : L.on = true) : L.activate.may = true := by
 obtain ⟨act, trial, flo, gen, v0, l0, h0, v1, l1, h1, on, ⟨s, v, l, z, p, d⟩⟩ := L
 dsimp only at ho
 subst ho
 unfold LSt.may mayB2 at h
 simp only [Bool.and_eq_true, decide_eq_true_eq, if_true] at h
 obtain ⟨⟨⟨ha, h2, h3⟩, hm⟩, hf⟩ := h
 obtain ⟨X, Z, P, rfl, rfl, rfl, b1, b2, b3, b4, b5, b6⟩ := man_bounds hm
 have hfil : filledB (X : Int) d.length = true := by
  unfold filledB
  simp
  omega
 rcases ha with rfl | rfl
 ·simp only [if_true, Bool.and_eq_true] at hf
  unfold LSt.activate LSt.may mayB2 LMan.zero
  simp [hf.1, hfil]
 ·simp only [show ¬ (1 : Int) = 0 by decide, if_false, Bool.and_eq_true] at hf
  unfold LSt.activate LSt.may mayB2 LMan.zero
  simp [hf.1, hfil]
theorem activate_is (L : LSt) : L.activate.act = 1 - L.act ∧ L.activate.trial = 3 ∧ L.activate.flo = L.flo ∧ L.activate.on = false := by
 unfold LSt.activate
 split <;> exact ⟨rfl, rfl, rfl, rfl⟩
end Go.Proofs.YtmncpgfdpcckpaaGreatDoor
