/- Bytes by exclusive or, one after another. -/
import Derived.Lib.Hide
import Derived.Laws.BitsAllLaws
import Derived.Laws.LoneSync
import Derived.Deep.WholeRow
import Derived.Deep.RegionHeld3
import Derived.Test.YtmncpgfdpcckpaaGreatDoorZBQN
import Derived.Test.YtmncpgfdpcckpaaGreatDoorZAQN
set_option maxRecDepth 100000
namespace Go.Proofs.YtmncpgfdpcckpaaGreatDoor
def xl (a b : List UInt8) (i : Nat) : List UInt8 := (List.range a.length).map fun j => if j < i then a.getD j 0 ^^^ b.getD j 0 else a.getD j 0
theorem xl_length (a b : List UInt8) (i : Nat) : (xl a b i).length = a.length := by simp [xl]
theorem xl_get (a b : List UInt8) (i j : Nat) (h : j < a.length) : (xl a b i)[j]? = some (if j < i then a.getD j 0 ^^^ b.getD j 0 else a.getD j 0) := by simp [xl, h]
theorem xl_getD (a b : List UInt8) (i j : Nat) (h : j < a.length) : (xl a b i).getD j 0 = if j < i then a.getD j 0 ^^^ b.getD j 0 else a.getD j 0 := by
 rw [List.getD_eq_getElem?_getD, xl_get a b i j h]; rfl
theorem xl_zero (a b : List UInt8) : xl a b 0 = a := by
 apply List.ext_getElem?
 intro j
 by_cases h : j < a.length
 ·rw [xl_get a b 0 j h, List.getElem?_eq_getElem h]; simp [List.getD, h]
 ·rw [List.getElem?_eq_none (by rw [xl_length]; omega), List.getElem?_eq_none (by omega)]
theorem xl_set (a b : List UInt8) (i : Nat) (h : i < a.length) : (xl a b i).set i (a.getD i 0 ^^^ b.getD i 0) = xl a b (i + 1) := by
 apply List.ext_getElem?
 intro j
 rw [List.getElem?_set]
 by_cases hj : j < a.length
 ·rw [xl_get a b (i + 1) j hj]
  by_cases e : i = j
  ·subst e; simp [xl_length, h]
  ·rw [if_neg e, xl_get a b i j hj]
   by_cases h1 : j < i
   ·rw [if_pos h1, if_pos (by omega)]
   ·rw [if_neg h1, if_neg (by omega)]
 ·rw [List.getElem?_eq_none (by rw [xl_length]; omega)]
  rw [List.getElem?_eq_none (by rw [xl_length]; omega)]
  split
  ·split
   ·rename_i h3; rw [xl_length] at h3; omega
   ·rfl
  ·rfl
def xorL (a b : List UInt8) : List UInt8 := xl a b a.length
theorem xorL_length (a b : List UInt8) : (xorL a b).length = a.length := xl_length a b _
end Go.Proofs.YtmncpgfdpcckpaaGreatDoor
namespace Go.Proofs.YtmncpgfdpcckpaaGreatDoor.El
open Go.RowKit
open VecM Vc
def DatAt (W : World) (A : Option Addr) (c : Nat) (l : List UInt8) : Prop := W.ownsRow 0 5 1 (.slice A l.length c) l.length (bv l)
def blk (A : Option Addr) : Option Nat := A.map (·.block)
theorem own_keep {W W' : World} {base n c : Nat} {e : TypeId} {A : Option Addr} {xs : List Value} (h : W.ownsRow base e 1 (.slice A n c) n xs) (hk : ∀ b, blk A = some b → W'.heap[b]? = W.heap[b]?) : W'.ownsRow base e 1 (.slice A n c) n xs := by
 refine ⟨h.1, ?_⟩
 rcases h.2 with h0 | ⟨g, cap, cur, hv, hb, hg, r⟩
 ·exact .inl h0
 ·refine .inr ⟨g, cap, cur, hv, hb, ?_, r⟩
  injection hv with e1
  rw [hk g (by rw [e1]; rfl)]
  exact hg
section
variable {W W' : World} {A : Option Addr} {c d : Nat} {l : List UInt8}
theorem DatAt.keep (h : DatAt W A c l) (hk : ∀ b, blk A = some b → W'.heap[b]? = W.heap[b]?) : DatAt W' A c l := own_keep h hk
theorem DatAt.row (h : DatAt W A c l) : Row W W.heap.size A l.length (bv l) := Row.of_own h
theorem DatAt.blk_u8 (h : DatAt W A c l) (hb : blk A = some d) : ∃ cur, W.heap[d]? = some (.cells cur 5 (0, 0)) := by
 rcases h.2 with ⟨h0, _⟩ | ⟨g, cap, cur, hv, _, hg, _⟩
 ·injection h0 with e1; rw [e1] at hb; cases hb
 ·injection hv with e1
  rw [e1] at hb
  injection hb with hb
  have hb : g = d := hb
  subst hb
  exact ⟨cur, hg⟩
theorem DatAt.lt (h : DatAt W A c l) (hb : blk A = some d) : d < W.heap.size := by
 obtain ⟨cur, hg⟩ := h.blk_u8 hb
 exact (Array.getElem?_eq_some_iff.1 hg).1
end
theorem ne_of_types {W : World} {a b : Nat} {c1 c2 : Array Value} {t1 t2 : TypeId} {f1 f2 : Nat × Nat} (h1 : W.heap[a]? = some (.cells c1 t1 f1)) (h2 : W.heap[b]? = some (.cells c2 t2 f2)) (ht : t1 ≠ t2) : a ≠ b := by
 intro e; subst e; rw [h1] at h2; injection h2 with h2; injection h2 with _ h2 _; exact ht h2
theorem VecAt.hblk {W : World} {g h n X : Nat} (v : VecAt W g h n X) : ∃ cs, W.heap[h]? = some (.cells cs 137 (0, 0)) := by
 obtain ⟨_, _, _, cap, cs, _, h2, _⟩ := v; exact ⟨cs, h2⟩
theorem VecAt.gblk {W : World} {g h n X : Nat} (v : VecAt W g h n X) : ∃ cs, W.heap[g]? = some (.cells cs 189 (0, 0)) := by
 obtain ⟨_, _, _, cap, cs, h1, _⟩ := v; exact ⟨_, h1⟩
structure ER where
 g : Nat
 h : Nat
 d : Nat
 c : Nat
 X : Nat
 l : List UInt8
def ptrOf : Option ER → Value
 | none => .pointer none
 | some r => .pointer (some ⟨r.g, 0, none⟩)
def slcOf : Option ER → Value
 | none => .slice none 0 0
 | some r => .slice (some ⟨r.d, 0, none⟩) r.l.length r.c
def rankE (rs : List (Option ER)) : Nat := (rs.filter Option.isSome).length
structure MatAt (W : World) (F : Nat → Prop) (gm gr n z : Nat) (rs : List (Option ER)) : Prop where
 n1 : 1 ≤ n
 n2 : n ≤ 256
 z1 : 1 ≤ z
 z2 : z ≤ 16
 len : rs.length = n
 head : W.heap[gm]? = some (.cells #[.int .i64 (n : Int), .int .i64 (z : Int), .slice (some ⟨gr, 0, none⟩) n n, .int .i64 (rankE rs : Int)] 154 (0, 0))
 rows : ∃ cs, W.heap[gr]? = some (.cells cs 157 (0, 0)) ∧ cs.size = n * 2 ∧ ∀ i, i < n → cs[i * 2]? = some (ptrOf (rs.getD i none)) ∧ cs[i * 2 + 1]? = some (slcOf (rs.getD i none))
 at_ : ∀ (i : Nat) (r : ER), rs[i]? = some (some r) → VecAt W r.g r.h n r.X ∧ DatAt W (some ⟨r.d, 0, none⟩) r.c r.l ∧ r.l.length = z ∧ F r.g ∧ F r.h ∧ F r.d
 apart : ∀ (i j : Nat) (r s : ER), i ≠ j → rs[i]? = some (some r) → rs[j]? = some (some s) → r.h ≠ s.h ∧ r.d ≠ s.d
 fm : F gm
 fr : F gr
section
variable {W W' : World} {F F' : Nat → Prop} {gm gr n z : Nat} {rs : List (Option ER)}
theorem MatAt.keep (m : MatAt W F gm gr n z rs) (hk : ∀ b, F b → b < W.heap.size → W'.heap[b]? = W.heap[b]?) : MatAt W' F gm gr n z rs := by
 have lt : ∀ {b o}, W.heap[b]? = some o → b < W.heap.size := fun h => (Array.getElem?_eq_some_iff.1 h).1
 refine ⟨m.n1, m.n2, m.z1, m.z2, m.len, (hk gm m.fm (lt m.head)).trans m.head, ?_, fun i r hr => ?_, m.apart, m.fm, m.fr⟩
 ·obtain ⟨cs, h1, h2⟩ := m.rows
  exact ⟨cs, (hk gr m.fr (lt h1)).trans h1, h2⟩
 ·obtain ⟨a1, a2, a3, a4, a5, a6⟩ := m.at_ i r hr
  refine ⟨a1.keep (hk _ a4 a1.lt.1) (hk _ a5 a1.lt.2), a2.keep fun b hb => ?_, a3, a4, a5, a6⟩
  injection hb with hb
  have hb : r.d = b := hb
  subst hb
  exact hk _ a6 (a2.lt rfl)
theorem MatAt.below (m : MatAt W F gm gr n z rs) (hb : Below W.heap.size W W') : MatAt W' F gm gr n z rs := m.keep fun b _ h => hb.block b h
theorem MatAt.lt (m : MatAt W F gm gr n z rs) : gm < W.heap.size ∧ gr < W.heap.size :=
 ⟨(Array.getElem?_eq_some_iff.1 m.head).1, by obtain ⟨cs, h, _⟩ := m.rows; exact (Array.getElem?_eq_some_iff.1 h).1⟩
theorem MatAt.more (m : MatAt W F gm gr n z rs) (hF : ∀ b, F b → F' b) : MatAt W F' gm gr n z rs :=
 ⟨m.n1, m.n2, m.z1, m.z2, m.len, m.head, m.rows, fun i r hr => by obtain ⟨a1, a2, a3, a4, a5, a6⟩ := m.at_ i r hr; exact ⟨a1, a2, a3, hF _ a4, hF _ a5, hF _ a6⟩, m.apart, hF _ m.fm, hF _ m.fr⟩
theorem MatAt.cells (m : MatAt W F gm gr n z rs) : W.cell? ⟨gm, 0, none⟩ = some (.int .i64 (n : Int)) ∧ W.cell? ⟨gm, 1, none⟩ = some (.int .i64 (z : Int)) ∧ W.cell? ⟨gm, 2, none⟩ = some (.slice (some ⟨gr, 0, none⟩) n n) ∧ W.cell? ⟨gm, 3, none⟩ = some (.int .i64 (rankE rs : Int)) := by
 refine ⟨?_, ?_, ?_, ?_⟩ <;> rw [cell_of_row W gm _ _ _ (0, 0) m.head] <;> rfl
theorem MatAt.row (m : MatAt W F gm gr n z rs) {i : Nat} (hi : i < n) : W.cell? ⟨gr, i * 2, none⟩ = some (ptrOf (rs.getD i none)) ∧ W.cell? ⟨gr, i * 2 + 1, none⟩ = some (slcOf (rs.getD i none)) := by
 obtain ⟨cs, h, _, hc⟩ := m.rows
 exact ⟨by rw [cell_of_row W gr _ cs _ (0, 0) h]; exact (hc i hi).1, by rw [cell_of_row W gr _ cs _ (0, 0) h]; exact (hc i hi).2⟩
theorem MatAt.frozen (m : MatAt W F gm gr n z rs) (k : Nat) : W.frozen? ⟨gr, k, none⟩ = false ∧ W.frozen? ⟨gm, k, none⟩ = false := by
 obtain ⟨cs, h, _⟩ := m.rows
 exact ⟨frozen_of_row W gr k cs _ h, frozen_of_row W gm k _ _ m.head⟩
end
theorem empty_no (F : Nat → Prop) (gm gr n z : Nat) (rs : List (Option ER)) (w : World) (m : MatAt w F gm gr n z rs) : Calls Tryz.prog 101 #[.pointer (some ⟨gm, 0, none⟩)] w fun e w' => e = .returned (.bool false) ∧ w = w' := by
 obtain ⟨c0, _⟩ := m.cells
 have h1 := m.n1
 have hn : ((n : Int) == 0) = false := by simp; omega
 have hn0 : ¬ n = 0 := by omega
 clear m
 go_enter Tryz.func101, Tryz.ntmps101
 go_wp2_with fail
 go_ret
 exact ⟨rfl, rfl⟩
theorem rankE_rep (n : Nat) : rankE (List.replicate n none) = 0 := by
 unfold rankE
 rw [List.filter_eq_nil_iff.2]
 ·rfl
 ·intro a ha; rw [List.mem_replicate] at ha; rw [ha.2]; simp
theorem infoRow : (Tryz.prog.info? 157).map (fun i => (i.zero, i.size, i.bytes)) = some (some (.agg #[.pointer none, .slice none 0 0]), 2, 32) := by kernel_rfl
theorem made_rows (n : Nat) (hn : n ≤ 256) : ∃ C : Array Value, C.size = n * 2 ∧ (∀ i, i < n → C[i * 2]? = some (.pointer none) ∧ C[i * 2 + 1]? = some (.slice none 0 0)) ∧ ∀ w : World, (Instr.makeSlice 152 (.int .i64 (n : Int)) (.int .i64 (n : Int))).run Tryz.prog w = .ok (.slice (some ⟨w.heap.size, 0, none⟩) n n) (w.alloc (.cells C 157)) := by
 obtain ⟨i0, hi, hz0, hz1, hz2⟩ := info_parts infoRow
 have h := fun w => run_make (P := Tryz.prog) w 152 157 i0 (.agg #[.pointer none, .slice none 0 0]) Tryz.underlying152 hi hz0 .i64 .i64 (n : Int) (n : Int) (by omega) (by omega) (by rw [hz2]; omega) (by omega)
 refine ⟨madeCells #[.pointer none, .slice none 0 0] (n * 2), ?_, fun i hin => ?_, fun w => ?_⟩
 ·simp [madeCells]
 ·have e1 : i * 2 < n * 2 := by omega
  have e2 : i * 2 + 1 < n * 2 := by omega
  have e3 : i * 2 % 2 = 0 := by omega
  have e4 : (i * 2 + 1) % 2 = 1 := by omega
  constructor <;> simp [madeCells, e1, e2, e3, e4]
 ·rw [h w, hz1]
  simp [Value.cells]
end Go.Proofs.YtmncpgfdpcckpaaGreatDoor.El
namespace Go.Proofs.YtmncpgfdpcckpaaGreatDoor.El
open Go.RowKit
open VecM Vc
theorem below_setRowB {B g : Nat} {w w' : World} (h : Below B w w') (hg : B ≤ g) (cs : Array Value) : Below B w (w'.setRow g cs) :=
 ⟨h.os, h.tape, h.output, by simpa using h.size, fun k hk => (setRow_other w' g k cs (by omega)).trans (h.block k hk)⟩
theorem dat_of_own {W : World} {base n c : Nat} {A : Option Addr} {l : List UInt8} (h : W.ownsRow base 5 1 (.slice A n c) n (bv l)) (hl : 0 < l.length) : n = l.length ∧ DatAt W A c l ∧ ∃ d, A = some ⟨d, 0, none⟩ ∧ base ≤ d ∧ d < W.heap.size := by
 have e : n = l.length := by have := h.1; rw [bv_length] at this; omega
 subst e
 rcases h.2 with ⟨h0, h1⟩ | ⟨g, cap, cur, hv, hb, hg, r⟩
 ·omega
 ·refine ⟨rfl, ⟨h.1, .inr ⟨g, cap, cur, hv, Nat.zero_le _, hg, r⟩⟩, g, ?_, hb, (Array.getElem?_eq_some_iff.1 hg).1⟩
  injection hv
def OwnOk (n X : Nat) (l : List UInt8) (w : World) (e : Ending) (w' : World) : Prop :=
 ∃ g h d c, e = .returned (.agg #[.pointer (some ⟨g, 0, none⟩), .slice (some ⟨d, 0, none⟩) l.length c]) ∧ w.heap.size ≤ g ∧ w.heap.size ≤ h ∧ w.heap.size ≤ d ∧ Hid (VecAt w' g h n X) ∧ Hid (DatAt w' (some ⟨d, 0, none⟩) c l) ∧ Hid (Below w.heap.size w w')
set_option maxHeartbeats 1600000 in
theorem ownR_any (g h n X c : Nat) (A : Option Addr) (l : List UInt8) (w : World) (v : VecAt w g h n X) (hr : Row w w.heap.size A l.length (bv l)) (hl : 0 < l.length) (hl2 : l.length ≤ 1000) :
  Calls Tryz.prog 134 #[.agg #[.pointer (some ⟨g, 0, none⟩), .slice A l.length c]] w (OwnOk n X l w) := by
 obtain ⟨m, hm⟩ : ∃ m, l.length = m := ⟨_, rfl⟩
 rw [hm] at hr ⊢
 have HM := Lib.hid hm
 have HL := Lib.hid hl
 have hx := heap_alloc2_old w (.cells #[.pointer (some ⟨g, 0, none⟩), .slice A m c] 157) (.cells #[.pointer none, .slice none 0 0] 157)
 have hy := heap_alloc2_new w (.cells #[.pointer (some ⟨g, 0, none⟩), .slice A m c] 157) (.cells #[.pointer none, .slice none 0 0] 157)
 have hb : Below w.heap.size w ((w.alloc (.cells #[.pointer (some ⟨g, 0, none⟩), .slice A m c] 157)).alloc (.cells #[.pointer none, .slice none 0 0] 157)) := ((Below.refl _ _).alloc (Nat.le_refl _) _).alloc (by simp) _
 have hsz : ((w.alloc (.cells #[.pointer (some ⟨g, 0, none⟩), .slice A m c] 157)).alloc (.cells #[.pointer none, .slice none 0 0] 157)).heap.size = w.heap.size + 2 := by simp
 have HCL := Lib.hid (fun (W : World) (hW : Below w.heap.size w W) => clone_any w.heap.size m c A l W (hr.below hW) (by omega) hW.size)
 have HCO := Lib.hid (fun (W : World) (hW : Below w.heap.size w W) => copy_any g h n X W (v.below hW))
 clear v hr hl hm hl2
 go_enter Tryz.func134, Tryz.ntmps134
 go_upto_region 1 with fail
 have HB := Lib.hid hb
 have BX := Lib.hid hy
 have LX : Hid (w.heap.size + 1 < ((w.alloc (.cells #[.pointer (some ⟨g, 0, none⟩), .slice A m c] 157)).alloc (.cells #[.pointer none, .slice none 0 0] 157)).heap.size) := Lib.hid (by rw [hsz]; omega)
 have HBB : Hid (w.heap.size + 1 ≤ ((w.alloc (.cells #[.pointer (some ⟨g, 0, none⟩), .slice A m c] 157)).alloc (.cells #[.pointer none, .slice none 0 0] 157)).heap.size) := Lib.hid (by rw [hsz]; omega)
 generalize ((w.alloc (.cells #[.pointer (some ⟨g, 0, none⟩), .slice A m c] 157)).alloc (.cells #[.pointer none, .slice none 0 0] 157)) = wb at *
 have c0 : Hid (∀ W, Below (w.heap.size + 1) wb W → W.cell? ⟨w.heap.size, 0, none⟩ = some (.pointer (some ⟨g, 0, none⟩))) := Lib.hid (fun W hW => by rw [cell_of_row W _ 0 _ _ (0, 0) ((hW.block w.heap.size (Nat.lt_succ_self _)).trans hx)]; rfl)
 have c1 : Hid (∀ W, Below (w.heap.size + 1) wb W → W.cell? ⟨w.heap.size, 1, none⟩ = some (.slice A m c)) := Lib.hid (fun W hW => by rw [cell_of_row W _ 1 _ _ (0, 0) ((hW.block w.heap.size (Nat.lt_succ_self _)).trans hx)]; rfl)
 clear hb hx hy hsz
 refine wp_region_noPanic ?_
 refine wp_region_held_drew (S := (fun W => Below (w.heap.size + 1) wb W)) (by kernel_rfl) (Below.refl _ _).drew (fun hH0 => ?_)
 have hH0 : Below (w.heap.size + 1) wb wb.drew := hH0
 have BXd := Lib.hid (show wb.drew.heap[(w.heap.size + 1)]? = _ from BX.out)
 have LXd := Lib.hid (show (w.heap.size + 1) < wb.drew.heap.size from LX.out)
 generalize wb.drew = wd900 at *
 refine wpAnyH_take (i := 0) (oi := _) (v := ?tkv901) rfl (by kernel_rfl) (by kernel_rfl) (by kernel_rfl) (fun _ _ _ h => h) (Or.inl ⟨by rfl, ?tky901⟩) hH0 ?tkr901
 case tky901 => (intro w' hSw; clear hSw; go_simp; try with_reducible rfl)
 try simp only [Act.put, zqa, zqb, zqc]
 refine wpAnyH_take (i := 1) (oi := _) (v := ?tkv902) rfl (by kernel_rfl) (by kernel_rfl) (by kernel_rfl) (fun _ _ _ h => h) (Or.inl ⟨by rfl, ?tky902⟩) hH0 ?tkr902
 case tky902 => (intro w' hSw; have z0 := c0.out _ hSw; have z1 := c1.out _ hSw; clear hSw; go_simp; try with_reducible rfl)
 try simp only [Act.put, zqa, zqb, zqc]
 refine wpAnyH_take (i := 3) (oi := _) (v := ?tkv903) rfl (by kernel_rfl) (by kernel_rfl) (by kernel_rfl) (fun _ _ _ h => h) (Or.inl ⟨by rfl, ?tky903⟩) hH0 ?tkr903
 case tky903 => (intro w' hSw; clear hSw; go_simp; try with_reducible rfl)
 try simp only [Act.put, zqa, zqb, zqc]
 refine wpAnyH_take (i := 4) (oi := _) (v := ?tkv904) rfl (by kernel_rfl) (by kernel_rfl) (by kernel_rfl) (fun _ _ _ h => h) (Or.inl ⟨by rfl, ?tky904⟩) hH0 ?tkr904
 case tky904 => (intro w' hSw; have z0 := c0.out _ hSw; have z1 := c1.out _ hSw; clear hSw; go_simp; try with_reducible rfl)
 try simp only [Act.put, zqa, zqb, zqc]
 refine wpAnyH_ready (rs := [2]) (by kernel_rfl) (by simp) ?_
 refine AllReadyH.cons (o := _) rfl (fun K hK => ?_) AllReadyH.nil
 go_simp
 refine (HCO.out wd900 (HB.out.trans ((hH0).mono (Nat.le_succ _)))).mono ?_
 rintro e' wn905 ⟨g905, h905, rfl, hg905, hh905, V905, hbo905⟩
 have hb905 := hbo905.out
 go_simp
 have BXd_905 := Lib.hid ((hb905.block (w.heap.size + 1) LXd.out).trans BXd.out)
 have LXd_905 := Lib.hid (Nat.lt_of_lt_of_le LXd.out hb905.size)
 have hS905 : Below (w.heap.size + 1) wb wn905 := (hH0).trans (hb905.mono (Nat.le_trans HBB.out (hH0).size))
 refine hK.out _ _ hS905 (fun hH905 => ?_)
 have hH905 : Below (w.heap.size + 1) wb wn905 := hH905
 clear hK K hS905
 try simp only [Act.put, zqa, zqb, zqc]
 refine wpAnyH_ready (rs := [5]) (by kernel_rfl) (by simp) ?_
 refine AllReadyH.cons (o := _) rfl (fun K hK => ?_) AllReadyH.nil
 go_simp
 refine (HCL.out wn905 (HB.out.trans ((hH905).mono (Nat.le_succ _)))).mono ?_
 rintro e' wn906 ⟨Ac906, nc906, c906, rfl, hnc906, hown906, hb906⟩
 obtain ⟨e906, D906, d906, rfl, hd906, hdl906⟩ := dat_of_own hown906 HL.out
 rw [HM.out] at e906
 have f906 := e906.symm
 subst f906
 have DD906 := Lib.hid D906
 clear hown906 hnc906 D906
 go_simp
 have BXd_906 := Lib.hid ((hb906.block (w.heap.size + 1) LXd_905.out).trans BXd_905.out)
 have LXd_906 := Lib.hid (Nat.lt_of_lt_of_le LXd_905.out hb906.size)
 have V905_906 := Lib.hid (V905.out.below hb906)
 have hS906 : Below (w.heap.size + 1) wb wn906 := (hH905).trans (hb906.mono (Nat.le_trans HBB.out (hH905).size))
 refine hK.out _ _ hS906 (fun hH906 => ?_)
 have hH906 : Below (w.heap.size + 1) wb wn906 := hH906
 clear hK K hS906
 try simp only [Act.put, zqa, zqb, zqc]
 refine wpAnyH_take (i := 6) (oi := _) (v := ?tkv907) rfl (by kernel_rfl) (by kernel_rfl) (by kernel_rfl) (fun _ _ _ h => h) (Or.inl ⟨by rfl, ?tky907⟩) hH906 ?tkr907
 case tky907 => (intro w' hSw; clear hSw; go_simp; try with_reducible rfl)
 try simp only [Act.put, zqa, zqb, zqc]
 refine wpAnyH_ready (rs := [7]) (by kernel_rfl) (by simp) ?_
 refine AllReadyH.cons (o := _) rfl (fun K hK => ?_) AllReadyH.nil
 rw [if_pos (by rfl)]
 refine wp_store_row _ _ _ rfl (w.heap.size + 1) #[.pointer (some ⟨g905, 0, none⟩), .slice (some ⟨d906, 0, none⟩) m c906] rfl rfl _ _ BXd_906.out (by kernel_rfl) (by rfl) (by kernel_rfl) ?_
 have hS908 : Below (w.heap.size + 1) wb (wn906.setRow (w.heap.size + 1) #[.pointer (some ⟨g905, 0, none⟩), .slice (some ⟨d906, 0, none⟩) m c906]) := (below_setRowB (hH906) (Nat.le_refl _) _)
 refine hK.out _ _ hS908 (fun hH908 => ?_)
 have hH908 : Below (w.heap.size + 1) wb (wn906.setRow (w.heap.size + 1) #[.pointer (some ⟨g905, 0, none⟩), .slice (some ⟨d906, 0, none⟩) m c906]) := hH908
 clear hK K hS908
 refine wpAnyH_done (by kernel_rfl) ?_ _
 refine NoPanic.normal ?_
 have HROW := Lib.hid (setRow_heap _ _ _ #[.pointer (some ⟨g905, 0, none⟩), .slice (some ⟨d906, 0, none⟩) m c906] _ _ BXd_906.out)
 have hends : Below w.heap.size w (wn906.setRow (w.heap.size + 1) #[.pointer (some ⟨g905, 0, none⟩), .slice (some ⟨d906, 0, none⟩) m c906]) := HB.out.trans ((hH908).mono (Nat.le_succ _))
 have hk : ∀ b, b ≠ w.heap.size + 1 → (wn906.setRow (w.heap.size + 1) #[.pointer (some ⟨g905, 0, none⟩), .slice (some ⟨d906, 0, none⟩) m c906]).heap[b]? = wn906.heap[b]? := fun b hb => setRow_other _ _ _ _ hb
 have hlx := LXd.out
 have hw1 := HB.out.size
 have hgg : wd900.heap.size ≤ g905 := hg905
 have hgh : wd900.heap.size ≤ h905 := hh905
 have hgd : wn905.heap.size ≤ d906 := hd906
 have hdv := (hH905).size
 have hdl := (LXd_905).out
 have VF : Hid (VecAt (wn906.setRow (w.heap.size + 1) #[.pointer (some ⟨g905, 0, none⟩), .slice (some ⟨d906, 0, none⟩) m c906]) g905 h905 n X) := Lib.hid (V905_906.out.keep (hk _ (by omega)) (hk _ (by omega)))
 have DF : Hid (DatAt (wn906.setRow (w.heap.size + 1) #[.pointer (some ⟨g905, 0, none⟩), .slice (some ⟨d906, 0, none⟩) m c906]) (some ⟨d906, 0, none⟩) c906 l) := Lib.hid (DD906.out.keep fun b hb => by
  have hb : d906 = b := Option.some.inj hb
  exact hk _ (by omega))
 have G1 : Hid (w.heap.size ≤ g905) := Lib.hid (by omega)
 have G2 : Hid (w.heap.size ≤ h905) := Lib.hid (by omega)
 have G3 : Hid (w.heap.size ≤ d906) := Lib.hid (by omega)
 have HENDS := Lib.hid hends
 clear hk hlx hw1 hgg hgh hgd hdv hdl hends
 go_wp2_with fail
 refine bodyPost_ret (results_cell_row rfl _ _ (w.heap.size + 1) _ _ (0, 0) _ rfl HROW.out Tryz.underlying157 rfl (by kernel_rfl)) rfl ?_
 exact ⟨g905, h905, d906, c906, by rw [HM.out], G1.out, G2.out, G3.out, VF, DF, HENDS⟩
end Go.Proofs.YtmncpgfdpcckpaaGreatDoor.El
namespace Go.Proofs.YtmncpgfdpcckpaaGreatDoor.El
open Go.RowKit
open VecM Vc
structure Fr (w w' : World) (F : Nat → Prop) : Prop where
 os : w'.os = w.os
 tape : w'.tape = w.tape
 output : w'.output = w.output
 size : w.heap.size ≤ w'.heap.size
 block : ∀ b, b < w.heap.size → ¬ F b → w'.heap[b]? = w.heap[b]?
section
variable {w w' w'' : World} {F F' : Nat → Prop}
theorem Fr.refl (w : World) (F : Nat → Prop) : Fr w w F := ⟨rfl, rfl, rfl, Nat.le_refl _, fun _ _ _ => rfl⟩
theorem Fr.of_below (hb : Below w.heap.size w w') : Fr w w' F := ⟨hb.os, hb.tape, hb.output, hb.size, fun b h _ => hb.block b h⟩
theorem Fr.of_grown {r : Nat} (hg : w.grownBy w' (some r)) (hF : F r) : Fr w w' F :=
 ⟨hg.os, hg.tape, hg.output, hg.size, fun b h hn => hg.block b h (fun e => hn (by injection e with e; rw [e]; exact hF))⟩
theorem Fr.trans (h1 : Fr w w' F) (h2 : Fr w' w'' F') (hF : ∀ b, b < w.heap.size → F' b → F b) : Fr w w'' F :=
 ⟨h2.os.trans h1.os, h2.tape.trans h1.tape, h2.output.trans h1.output, Nat.le_trans h1.size h2.size, fun b hb hn => (h2.block b (Nat.lt_of_lt_of_le hb h1.size) (fun h => hn (hF b hb h))).trans (h1.block b hb hn)⟩
theorem Fr.more (h : Fr w w' F) (hF : ∀ b, b < w.heap.size → F b → F' b) : Fr w w' F' := ⟨h.os, h.tape, h.output, h.size, fun b hb hn => h.block b hb (fun h => hn (hF b hb h))⟩
theorem Fr.below {B : Nat} (h : Fr w w' F) (hF : ∀ b, F b → B ≤ b) (hB : B ≤ w.heap.size) : Below B w w' :=
 ⟨h.os, h.tape, h.output, h.size, fun b hb => h.block b (by omega) (fun hf => by have := hF b hf; omega)⟩
end
theorem bv_xl_set (a l : List UInt8) (k : Nat) (h : k < a.length) : (bv (xl a l k)).set k (.int .u8 ((a.getD k 0 ^^^ l.getD k 0).toNat : Int)) = bv (xl a l (k + 1)) := by
 rw [← xl_set a l k h]
 simp [bv, List.map_set]
theorem grown_set (W : World) (g k : Nat) (v : Value) : W.grownBy (W.setCell ⟨g, k, none⟩ v) (some g) :=
 ⟨rfl, rfl, rfl, by simp, fun j _ hj => heap_setCell_other W ⟨g, k, none⟩ j v (fun e => hj (by simp [e]))⟩
theorem bv_getD (l : List UInt8) (k : Nat) (h : k < l.length) : (bv l)[k]? = some (.int .u8 ((l.getD k 0).toNat : Int)) := by
 rw [bv_get l k h, List.getD_eq_getElem?_getD, List.getElem?_eq_getElem h]; rfl
def ChOk (g h n Z d c : Nat) (l : List UInt8) (w : World) (e : Ending) (w' : World) : Prop := e = .returned (.tuple #[]) ∧ Hid (VecAt w' g h n Z) ∧ Hid (DatAt w' (some ⟨d, 0, none⟩) c l) ∧ Hid (Fr w w' (fun b => b = h ∨ b = d))
set_option maxHeartbeats 1600000 in
theorem change_any (g h n X d c m g' h' Y d' c' : Nat) (l l' : List UInt8) (w : World) (v : VecAt w g h n X) (hd : DatAt w (some ⟨d, 0, none⟩) c l) (u : VecAt w g' h' n Y) (hd' : DatAt w (some ⟨d', 0, none⟩) c' l') (hh : h ≠ h') (hdd : d ≠ d') (hl : l.length = m) (hl' : l'.length = m) (hm : m ≤ 1000) :
  Calls Tryz.prog 106 #[.agg #[.pointer (some ⟨g, 0, none⟩), .slice (some ⟨d, 0, none⟩) m c], .agg #[.pointer (some ⟨g', 0, none⟩), .slice (some ⟨d', 0, none⟩) m c']] w (ChOk g h n (X ^^^ Y) d c (xorL l l') w) := by
 have hx := heap_alloc2_old w (.cells #[.pointer (some ⟨g, 0, none⟩), .slice (some ⟨d, 0, none⟩) m c] 157) (.cells #[.pointer (some ⟨g', 0, none⟩), .slice (some ⟨d', 0, none⟩) m c'] 157)
 have hy := heap_alloc2_new w (.cells #[.pointer (some ⟨g, 0, none⟩), .slice (some ⟨d, 0, none⟩) m c] 157) (.cells #[.pointer (some ⟨g', 0, none⟩), .slice (some ⟨d', 0, none⟩) m c'] 157)
 have hb : Below w.heap.size w ((w.alloc (.cells #[.pointer (some ⟨g, 0, none⟩), .slice (some ⟨d, 0, none⟩) m c] 157)).alloc (.cells #[.pointer (some ⟨g', 0, none⟩), .slice (some ⟨d', 0, none⟩) m c'] 157)) := ((Below.refl _ _).alloc (Nat.le_refl _) _).alloc (by simp) _
 have hg' : h ≠ g' := by obtain ⟨c1, a1⟩ := VecAt.hblk v; obtain ⟨c2, a2⟩ := VecAt.gblk u; exact ne_of_types a1 a2 (by decide)
 have hhd' : h ≠ d' := by obtain ⟨c1, a1⟩ := VecAt.hblk v; obtain ⟨c2, a2⟩ := hd'.blk_u8 rfl; exact ne_of_types a1 a2 (by decide)
 have hhd : h ≠ d := by obtain ⟨c1, a1⟩ := VecAt.hblk v; obtain ⟨c2, a2⟩ := hd.blk_u8 rfl; exact ne_of_types a1 a2 (by decide)
 have hgd : g ≠ d := by obtain ⟨c1, a1⟩ := VecAt.gblk v; obtain ⟨c2, a2⟩ := hd.blk_u8 rfl; exact ne_of_types a1 a2 (by decide)
 have hlt := v.lt
 have hdlt := hd.lt (d := d) rfl
 have HV := Lib.hid (v.below hb)
 have HU := Lib.hid (u.below hb)
 have HD := Lib.hid (hd.keep fun b he => hb.block b (hd.lt he))
 have HD' := Lib.hid (hd'.keep fun b he => hb.block b (hd'.lt he))
 have HNE := Lib.hid (And.intro hg' (And.intro hhd' (And.intro hhd (And.intro hgd (And.intro hh hdd)))))
 have HL := Lib.hid hl
 have HL' := Lib.hid hl'
 have HX := Lib.hid hx
 have HY := Lib.hid hy
 have HB := Lib.hid hb
 have HLT := Lib.hid (And.intro hlt hdlt)
 clear v u hd hd' hh hdd hl hl' hx hy hb hg' hhd' hhd hgd hlt hdlt
 go_enter Tryz.func106, Tryz.ntmps106
 go_wp2_with fail
 generalize ((w.alloc (.cells #[.pointer (some ⟨g, 0, none⟩), .slice (some ⟨d, 0, none⟩) m c] 157)).alloc (.cells #[.pointer (some ⟨g', 0, none⟩), .slice (some ⟨d', 0, none⟩) m c'] 157)) = wb at *
 refine (xor_any g h n X g' h' Y wb HV.out HU.out HNE.out.2.2.2.2.1 HNE.out.1).mono ?_
 rintro e w1 ⟨rfl, hv1, hg1⟩
 have hx1 := (hg1.out.block w.heap.size (Array.getElem?_eq_some_iff.1 HX.out).1 (fun e => by injection e with e; have := HLT.out.1.2; omega)).trans HX.out
 have hy1 := (hg1.out.block (w.heap.size + 1) (Array.getElem?_eq_some_iff.1 HY.out).1 (fun e => by injection e with e; have := HLT.out.1.2; omega)).trans HY.out
 have HD1 := Lib.hid (HD.out.keep fun b he => hg1.out.block b (HD.out.lt he) (fun e => by
  have he : d = b := Option.some.inj he
  have e : b = h := Option.some.inj e
  exact HNE.out.2.2.1 (by omega)))
 have HD1' := Lib.hid (HD'.out.keep fun b he => hg1.out.block b (HD'.out.lt he) (fun e => by
  have he : d' = b := Option.some.inj he
  have e : b = h := Option.some.inj e
  exact HNE.out.2.1 (by omega)))
 have HX1 := Lib.hid hx1
 have HY1 := Lib.hid hy1
 have HF1 : Hid (Fr w w1 (fun b => b = h ∨ b = d)) := Lib.hid ((Fr.of_below HB.out).trans (Fr.of_grown hg1.out (F := fun b => b = h ∨ b = d) (.inl rfl)) fun _ _ h => h)
 have c1 : w1.cell? ⟨w.heap.size, 1, none⟩ = some (.slice (some ⟨d, 0, none⟩) m c) := by rw [cell_of_row w1 _ 1 _ _ (0, 0) hx1]; rfl
 clear hx1 hy1 HD HD' HX HY HB HV HU hg1
 go_wp2_with fail
 clear c1
 go_loopw [13] (fun x wr => ∃ k : Nat, k ≤ m ∧ x = .int .i64 k ∧ Hid (DatAt wr (some ⟨d, 0, none⟩) c (xl l l' k)) ∧ Hid (w1.grownBy wr (some d))) (fun x _ => m - (intOf x).toNat)
 case atStart => exact ⟨0, by omega, rfl, by rw [xl_zero]; exact HD1, Lib.hid ⟨rfl, rfl, rfl, Nat.le_refl _, fun _ _ _ => rfl⟩⟩
 case round =>
  obtain ⟨k, hk, rfl, hown, hgr⟩ := hrel
  by_cases hlt : k < m
  ·have hka : k < l.length := by rw [HL.out]; exact hlt
   have hka' : k < l'.length := by rw [HL'.out]; exact hlt
   have hxr := (hgr.out.block w.heap.size (Array.getElem?_eq_some_iff.1 HX1.out).1 (fun e => by injection e with e; have := HLT.out.2; omega)).trans HX1.out
   have hyr := (hgr.out.block (w.heap.size + 1) (Array.getElem?_eq_some_iff.1 HY1.out).1 (fun e => by injection e with e; have := HLT.out.2; omega)).trans HY1.out
   have c1 : wr.cell? ⟨w.heap.size, 1, none⟩ = some (.slice (some ⟨d, 0, none⟩) m c) := by rw [cell_of_row wr _ 1 _ _ (0, 0) hxr]; rfl
   have c3 : wr.cell? ⟨w.heap.size + 1, 1, none⟩ = some (.slice (some ⟨d', 0, none⟩) m c') := by rw [cell_of_row wr _ 1 _ _ (0, 0) hyr]; rfl
   have hd2 := HD1'.out.keep (W' := wr) fun b he => hgr.out.block b (HD1'.out.lt he) (fun e => by
    have he : d' = b := Option.some.inj he
    have e : b = d := Option.some.inj e
    exact HNE.out.2.2.2.2.2 (by omega))
   have hcs := (hown.out.cellAt k (by rw [xl_length]; omega)).trans (bv_getD _ k (by rw [xl_length]; exact hka))
   have hfz := hown.out.frozenAt k
   rw [xl_getD l l' k k hka, if_neg (by omega)] at hcs
   have hct := (hd2.cellAt k (by omega)).trans (bv_getD _ k hka')
   have hst0 := (hown.out.stored k (.int .u8 ((l.getD k 0 ^^^ l'.getD k 0).toNat : Int))).1
   rw [bv_xl_set l l' k hka, UInt8.toNat_xor] at hst0
   have HST : Hid (DatAt (wr.setCell ⟨d, k, none⟩ (.int .u8 (((l.getD k 0).toNat ^^^ (l'.getD k 0).toNat : Nat) : Int))).drew (some ⟨d, 0, none⟩) c (xl l l' (k + 1))) := Lib.hid (by
    unfold DatAt
    rw [xl_length] at hst0 ⊢
    exact hst0)
   have HG : Hid (w1.grownBy (wr.setCell ⟨d, k, none⟩ (.int .u8 (((l.getD k 0).toNat ^^^ (l'.getD k 0).toNat : Nat) : Int))).drew (some d)) := Lib.hid (by
    have h2 := hgr.out.trans (grown_set wr d k (.int .u8 (((l.getD k 0).toNat ^^^ (l'.getD k 0).toNat : Nat) : Int)))
    exact ⟨h2.os, h2.tape, h2.output, h2.size, h2.block⟩)
   have hxor := u8_xor_nat (l.getD k 0).toNat (l'.getD k 0).toNat (CrcM.b_lt _) (CrcM.b_lt _)
   have hki : (k : Int) < (m : Int) := by omega
   clear hown hxr hyr hd2 hst0 hgr
   generalize l.getD k 0 = x at *
   generalize l'.getD k 0 = y at *
   go_wp2_with fail
   go_region
   go_wp2_with fail
   go_roundw
   case rel => exact ⟨k + 1, by omega, by go_num, HST, HG⟩
   case measure => simp [intOf]; omega
  ·obtain rfl : m = k := by omega
   have HDF : Hid (DatAt wr (some ⟨d, 0, none⟩) c (xorL l l')) := Lib.hid (by
    have := hown.out
    unfold xorL
    rw [HL.out]
    exact this)
   have HVF : Hid (VecAt wr g h n (X ^^^ Y)) := Lib.hid (hv1.out.keep (hgr.out.block g hv1.out.lt.1 (fun e => HNE.out.2.2.2.1 (Option.some.inj e))) (hgr.out.block h hv1.out.lt.2 (fun e => HNE.out.2.2.1 (Option.some.inj e))))
   have HFF : Hid (Fr w wr (fun b => b = h ∨ b = d)) := Lib.hid (HF1.out.trans (Fr.of_grown hgr.out (F := fun b => b = h ∨ b = d) (.inr rfl)) fun _ _ h => h)
   clear hown hgr hv1
   go_wp2_with fail
   first | go_end0 | (simp only [Exit.inBlock, Exit.then]; refine bodyPost_ret (results_none rfl _ _ _) rfl ?_) | refine bodyPost_ret (results_none rfl _ _ _) rfl ?_
   exact ⟨rfl, HVF, HDF, HFF⟩
end Go.Proofs.YtmncpgfdpcckpaaGreatDoor.El
namespace Go.Proofs.YtmncpgfdpcckpaaGreatDoor.El
open Go.RowKit
open VecM Vc
abbrev Mx := List (Option (Nat × List UInt8))
def absM (rs : List (Option ER)) : Mx := rs.map (Option.map fun r => (r.X, r.l))
def redM (M : Mx) (X : Nat) (l : List UInt8) : Nat → Nat × List UInt8
 | 0 => (X, l)
 | k + 1 => match M.getD k none with
  | none => redM M X l k
  | some r => if (redM M X l k).1.testBit k then ((redM M X l k).1 ^^^ r.1, xorL (redM M X l k).2 r.2) else redM M X l k
theorem absM_getD (rs : List (Option ER)) (k : Nat) : (absM rs).getD k none = (rs.getD k none).map fun r => (r.X, r.l) := by
 unfold absM
 rw [List.getD_eq_getElem?_getD, List.getD_eq_getElem?_getD, List.getElem?_map]
 cases rs[k]? <;> rfl
theorem redM_len (M : Mx) (X : Nat) (l : List UInt8) (k : Nat) : (redM M X l k).2.length = l.length := by
 induction k with
 | zero => rfl
 | succ k ih =>
  unfold redM
  split
  ·exact ih
  ·split
   ·show (xorL _ _).length = _; rw [xorL_length]; exact ih
   ·exact ih
theorem redM_none {M : Mx} {X : Nat} {l : List UInt8} {k : Nat} (h : M.getD k none = none) : redM M X l (k + 1) = redM M X l k := by
 rw [redM, h]
theorem redM_some {M : Mx} {X : Nat} {l : List UInt8} {k : Nat} {r : Nat × List UInt8} (h : M.getD k none = some r) : redM M X l (k + 1) = if (redM M X l k).1.testBit k then ((redM M X l k).1 ^^^ r.1, xorL (redM M X l k).2 r.2) else redM M X l k := by
 rw [redM, h]
theorem getD_get {rs : List (Option ER)} {k : Nat} {r : ER} (h : rs.getD k none = some r) : rs[k]? = some (some r) := by
 rw [List.getD_eq_getElem?_getD] at h
 cases hk : rs[k]? with
 | none => rw [hk] at h; cases h
 | some x => rw [hk] at h; exact congrArg some h
theorem set2c {w : World} {g : Nat} {t : TypeId} {a b : Value} (h : w.heap[g]? = some (.cells #[a, b] t (0, 0))) (u v : Value) : ((w.setCell ⟨g, 0, none⟩ u).setCell ⟨g, 1, none⟩ v).heap[g]? = some (.cells #[u, v] t (0, 0)) := by
 have h0 : (w.setCell ⟨g, 0, none⟩ u).heap[g]? = some (.cells #[u, b] t (0, 0)) := heap_setCell_same _ g 0 _ t u h
 exact heap_setCell_same _ g 1 _ t v h0
theorem set2o (w : World) {g b : Nat} (h : b ≠ g) (u v : Value) : ((w.setCell ⟨g, 0, none⟩ u).setCell ⟨g, 1, none⟩ v).heap[b]? = w.heap[b]? := by
 rw [heap_setCell_other _ _ _ _ h, heap_setCell_other _ _ _ _ h]
structure RedAt (w : World) (g h d c n z : Nat) (Z : Nat) (k : List UInt8) (wr : World) : Prop where
 v : VecAt wr g h n Z
 dat : DatAt wr (some ⟨d, 0, none⟩) c k
 len : k.length = z
 bx : wr.heap[w.heap.size]? = some (.cells #[.pointer (some ⟨g, 0, none⟩), .slice (some ⟨d, 0, none⟩) z c] 157 (0, 0))
 by_ : wr.heap[w.heap.size + 1]? = some (.cells #[.pointer none, .slice none 0 0] 157 (0, 0))
 b : Below w.heap.size w wr
theorem RedAt.below {w wr w' : World} {g h d c n z Z : Nat} {k : List UInt8} (r : RedAt w g h d c n z Z k wr) (hb : Below wr.heap.size wr w') : RedAt w g h d c n z Z k w' :=
 ⟨r.v.below hb, r.dat.keep fun b he => hb.block b (r.dat.lt he), r.len, (hb.block _ (Array.getElem?_eq_some_iff.1 r.bx).1).trans r.bx, (hb.block _ (Array.getElem?_eq_some_iff.1 r.by_).1).trans r.by_, r.b.trans (hb.mono r.b.size)⟩
theorem RedAt.change {w wr w' : World} {g h d c n z Z Z' : Nat} {k k' : List UInt8} (r : RedAt w g h d c n z Z k wr) (hg : w.heap.size + 2 ≤ g ∧ w.heap.size + 2 ≤ h ∧ w.heap.size + 2 ≤ d) (hv : VecAt w' g h n Z') (hd : DatAt w' (some ⟨d, 0, none⟩) c k') (hl : k'.length = z) (hf : Fr wr w' (fun b => b = h ∨ b = d)) : RedAt w g h d c n z Z' k' w' :=
 ⟨hv, hd, hl, (hf.block _ (Array.getElem?_eq_some_iff.1 r.bx).1 (by omega)).trans r.bx, (hf.block _ (Array.getElem?_eq_some_iff.1 r.by_).1 (by omega)).trans r.by_, r.b.trans (hf.below (fun b hb => by omega) r.b.size)⟩
set_option maxHeartbeats 1600000 in
theorem reduced_any (F : Nat → Prop) (gm gr n z : Nat) (rs : List (Option ER)) (g0 h0 X c0 : Nat) (A : Option Addr) (l : List UInt8) (w : World) (m : MatAt w F gm gr n z rs) (v : VecAt w g0 h0 n X) (hr : Row w w.heap.size A l.length (bv l)) (hl : l.length = z) :
  Calls Tryz.prog 103 #[.pointer (some ⟨gm, 0, none⟩), .agg #[.pointer (some ⟨g0, 0, none⟩), .slice A z c0]] w (OwnOk n (redM (absM rs) X l n).1 (redM (absM rs) X l n).2 w) := by
 have hx := heap_alloc2_old w (.cells #[.pointer (some ⟨g0, 0, none⟩), .slice A z c0] 157) (.cells #[.pointer none, .slice none 0 0] 157)
 have hy := heap_alloc2_new w (.cells #[.pointer (some ⟨g0, 0, none⟩), .slice A z c0] 157) (.cells #[.pointer none, .slice none 0 0] 157)
 have hb : Below w.heap.size w ((w.alloc (.cells #[.pointer (some ⟨g0, 0, none⟩), .slice A z c0] 157)).alloc (.cells #[.pointer none, .slice none 0 0] 157)) := ((Below.refl _ _).alloc (Nat.le_refl _) _).alloc (by simp) _
 have HSZ : Hid (((w.alloc (.cells #[.pointer (some ⟨g0, 0, none⟩), .slice A z c0] 157)).alloc (.cells #[.pointer none, .slice none 0 0] 157)).heap.size = w.heap.size + 2) := Lib.hid (by simp)
 have hz1 := m.z1
 have hz2 := m.z2
 have HM := Lib.hid m
 have HV := Lib.hid (v.below hb)
 have hr2 := hr.below hb
 have HL := Lib.hid hl
 have HX := Lib.hid hx
 have HY := Lib.hid hy
 have HB := Lib.hid hb
 have HZ := Lib.hid (And.intro hz1 hz2)
 have HC := Lib.hid (fun W (hW : Below w.heap.size w W) => (m.below hW).cells)
 have hn2 : (n : Int) ≤ 256 := by have := m.n2; omega
 clear m v hr hl hx hy hb hz1 hz2
 go_enter Tryz.func103, Tryz.ntmps103
 go_upto_region 1 with fail
 generalize ((w.alloc (.cells #[.pointer (some ⟨g0, 0, none⟩), .slice A z c0] 157)).alloc (.cells #[.pointer none, .slice none 0 0] 157)) = wb at *
 have c1 : wb.cell? ⟨w.heap.size, 0, none⟩ = some (.pointer (some ⟨g0, 0, none⟩)) := by rw [cell_of_row wb _ 0 _ _ (0, 0) HX.out]; rfl
 have c2 : wb.cell? ⟨w.heap.size, 1, none⟩ = some (.slice A z c0) := by rw [cell_of_row wb _ 1 _ _ (0, 0) HX.out]; rfl
 have HR := Lib.hid hr2
 clear hr2
 go_wp2_with fail
 have hown := ownR_any g0 h0 n X c0 A l wb HV.out (HR.out.more (by rw [HSZ.out]; omega)) (by have := HZ.out; rw [HL.out]; omega) (by have := HZ.out; rw [HL.out]; omega)
 rw [HL.out] at hown
 refine hown.mono ?_
 clear hown
 rintro e w1 ⟨g, h, d, c, rfl, hg, hh, hd, V, D, hb1⟩
 rw [HL.out]
 have x1 := (hb1.out.block w.heap.size (by rw [HSZ.out]; omega)).trans HX.out
 have y1 := (hb1.out.block (w.heap.size + 1) (by rw [HSZ.out]; omega)).trans HY.out
 rw [HSZ.out] at hg hh hd
 clear c1 c2
 have c1 : w1.cell? ⟨w.heap.size, 0, none⟩ = some (.pointer (some ⟨g0, 0, none⟩)) := by rw [cell_of_row w1 _ 0 _ _ (0, 0) x1]; rfl
 have c2 : w1.cell? ⟨w.heap.size, 1, none⟩ = some (.slice A z c0) := by rw [cell_of_row w1 _ 1 _ _ (0, 0) x1]; rfl
 have f1 := frozen_of_row w1 w.heap.size 0 _ _ x1
 have f2 := frozen_of_row w1 w.heap.size 1 _ _ x1
 have HX1 := Lib.hid x1
 have HY1 := Lib.hid y1
 have HB1 := Lib.hid (HB.out.trans (hb1.out.mono HB.out.size))
 have HG := Lib.hid (And.intro hg (And.intro hh hd))
 clear x1 y1 hb1 HX HY HV HR hg hh hd HB HSZ
 go_upto_region 2 with fail
 have hz2 : w.heap.size + 2 ≤ w1.heap.size := by have := D.out.lt (d := d) rfl; have := HG.out; omega
 have HR2 : Hid (RedAt w g h d c n z (redM (absM rs) X l 0).1 (redM (absM rs) X l 0).2 ((w1.setCell ⟨w.heap.size, 0, none⟩ (.pointer (some ⟨g, 0, none⟩))).setCell ⟨w.heap.size, 1, none⟩ (.slice (some ⟨d, 0, none⟩) z c))) := Lib.hid
  ⟨V.out.keep (set2o _ (by have := HG.out; omega) _ _) (set2o _ (by have := HG.out; omega) _ _), D.out.keep fun b he => by
   have he : d = b := Option.some.inj he
   exact set2o _ (by have := HG.out; omega) _ _, HL.out, set2c HX1.out _ _, (set2o _ (by omega) _ _).trans HY1.out, (HB1.out.setCell (Nat.le_refl _) _).setCell (Nat.le_refl _) _⟩
 generalize ((w1.setCell ⟨w.heap.size, 0, none⟩ (.pointer (some ⟨g, 0, none⟩))).setCell ⟨w.heap.size, 1, none⟩ (.slice (some ⟨d, 0, none⟩) z c)) = w2 at *
 clear V D c1 c2 f1 f2 HX1 HY1 HB1 hz2
 obtain ⟨_, _, m2, _⟩ := HC.out w2 HR2.out.b
 go_wp2_with fail
 clear m2
 go_loopw [14] (fun x wr => ∃ k : Nat, k ≤ n ∧ x = .int .i64 k ∧ Hid (RedAt w g h d c n z (redM (absM rs) X l k).1 (redM (absM rs) X l k).2 wr)) (fun x _ => n - (intOf x).toNat)
 case atStart => exact ⟨0, by omega, rfl, HR2⟩
 case round =>
  obtain ⟨k, hk, rfl, hred⟩ := hrel
  by_cases hlt : k < n
  ·have hki : (k : Int) < (n : Int) := by omega
   obtain ⟨r1, r2⟩ := (HM.out.below hred.out.b).row hlt
   have hgr : gr < wr.heap.size := (HM.out.below hred.out.b).lt.2
   cases hro : rs.getD k none with
   | none =>
    rw [hro] at r1 r2
    unfold ptrOf at r1
    unfold slcOf at r2
    simp only at r1 r2
    go_wp2_with fail
    go_roundw
    case rel => exact ⟨k + 1, by omega, by go_num, by rw [redM_none (by rw [absM_getD, hro]; rfl)]; exact Lib.hid (hred.out.below ((Below.refl _ _).alloc (Nat.le_refl _) _))⟩
    case measure => simp [intOf]; omega
   | some r =>
    rw [hro] at r1 r2
    obtain ⟨e1, e2, e3, e4, e5, e6⟩ := HM.out.at_ k r (getD_get hro)
    unfold ptrOf at r1
    unfold slcOf at r2
    simp only [e3] at r1 r2
    have HRO := Lib.hid hro
    have HE := Lib.hid (And.intro e1 (And.intro e2 e3))
    clear hro e1 e2 e3 e4 e5 e6
    go_upto_region 5 with fail
    have hra := hred.out.below (w' := wr.alloc (.cells #[.pointer (some ⟨r.g, 0, none⟩), .slice (some ⟨r.d, 0, none⟩) z r.c] 157)) ((Below.refl _ _).alloc (Nat.le_refl _) _)
    have hxa := heap_alloc_new wr (.cells #[.pointer (some ⟨r.g, 0, none⟩), .slice (some ⟨r.d, 0, none⟩) z r.c] 157)
    have HRA := Lib.hid hra
    have HXA := Lib.hid hxa
    generalize wr.alloc (.cells #[.pointer (some ⟨r.g, 0, none⟩), .slice (some ⟨r.d, 0, none⟩) z r.c] 157) = wa at *
    clear hra hxa r1 r2 hgr
    have c1 : wa.cell? ⟨w.heap.size, 0, none⟩ = some (.pointer (some ⟨g, 0, none⟩)) := by rw [cell_of_row wa _ 0 _ _ (0, 0) HRA.out.bx]; rfl
    have c2 : wa.cell? ⟨w.heap.size, 1, none⟩ = some (.slice (some ⟨d, 0, none⟩) z c) := by rw [cell_of_row wa _ 1 _ _ (0, 0) HRA.out.bx]; rfl
    have c3 : wa.cell? ⟨wr.heap.size, 0, none⟩ = some (.pointer (some ⟨r.g, 0, none⟩)) := by rw [cell_of_row wa _ 0 _ _ (0, 0) HXA.out]; rfl
    have c4 : wa.cell? ⟨wr.heap.size, 1, none⟩ = some (.slice (some ⟨r.d, 0, none⟩) z r.c) := by rw [cell_of_row wa _ 1 _ _ (0, 0) HXA.out]; rfl
    have HM2 := Lib.hid (redM_some (M := absM rs) (X := X) (l := l) (k := k) (r := (r.X, r.l)) (by rw [absM_getD, HRO.out]; rfl))
    have hlq := redM_len (absM rs) X l k
    obtain ⟨⟨Z, q⟩, hZ⟩ : ∃ Z, redM (absM rs) X l k = Z := ⟨_, rfl⟩
    rw [hZ] at HM2 HRA hlq
    have HQ : Hid (q.length = z) := Lib.hid (hlq.trans HL.out)
    simp only at HM2 HRA
    clear hZ hred hlq
    go_wp2_with fail
    refine (has_in g h n Z k wa HRA.out.v hlt).mono ?_
    rintro e w3 ⟨rfl, rfl⟩
    cases hbit : Z.testBit k with
    | false =>
     have HN : Hid (redM (absM rs) X l (k + 1) = (Z, q)) := Lib.hid (by rw [HM2.out, hbit]; rfl)
     go_wp2_with fail
     go_roundw
     case rel => exact ⟨k + 1, by omega, by go_num, by rw [HN.out]; exact HRA⟩
     case measure => simp [intOf]; omega
    | true =>
     have HN : Hid (redM (absM rs) X l (k + 1) = (Z ^^^ r.X, xorL q r.l)) := Lib.hid (by rw [HM2.out, hbit]; rfl)
     go_wp2_with fail
     have hfar : w.heap.size + 2 ≤ g ∧ w.heap.size + 2 ≤ h ∧ w.heap.size + 2 ≤ d := HG.out
     have hb0 := HRA.out.b
     refine (change_any g h n Z d c z r.g r.h r.X r.d r.c q r.l wa HRA.out.v HRA.out.dat (HE.out.1.below hb0) (HE.out.2.1.keep fun b he => hb0.block b (HE.out.2.1.lt he)) (by have := HE.out.1.lt; omega) (by have := HE.out.2.1.lt (d := r.d) rfl; omega) HQ.out HE.out.2.2 (by have := HZ.out; omega)).mono ?_
     rintro e w5 ⟨rfl, hv5, hd5, hf5⟩
     have HF : Hid (RedAt w g h d c n z (Z ^^^ r.X) (xorL q r.l) w5) := Lib.hid (HRA.out.change hfar hv5.out hd5.out (by rw [xorL_length]; exact HQ.out) hf5.out)
     clear hfar hb0 hv5 hd5 hf5 c1 c2 c3 c4
     go_wp2_with fail
     go_roundw
     case rel => exact ⟨k + 1, by omega, by go_num, by rw [HN.out]; exact HF⟩
     case measure => simp [intOf]; omega
  ·obtain rfl : n = k := by omega
   have HF := hred
   generalize redM (absM rs) X l n = Z at *
   obtain ⟨Z, q⟩ := Z
   simp only at HF ⊢
   have c1 : wr.cell? ⟨w.heap.size, 0, none⟩ = some (.pointer (some ⟨g, 0, none⟩)) := by rw [cell_of_row wr _ 0 _ _ (0, 0) HF.out.bx]; rfl
   have c2 : wr.cell? ⟨w.heap.size, 1, none⟩ = some (.slice (some ⟨d, 0, none⟩) z c) := by rw [cell_of_row wr _ 1 _ _ (0, 0) HF.out.bx]; rfl
   have HLZ : Hid (z = q.length) := Lib.hid HF.out.len.symm
   go_wp2_with ((with_reducible show wpList _ _ _ _ _ _); refine wpList_store_row rfl _ (.tmp 4) (.tmp 32) rfl (w.heap.size + 1) #[.pointer (some ⟨g, 0, none⟩), .slice (some ⟨d, 0, none⟩) z c] rfl rfl _ _ HF.out.by_ (by kernel_rfl) (by rfl) (by simp [Value.oneCell']) ?_)
   have hrow := setRow_heap _ _ _ #[.pointer (some ⟨g, 0, none⟩), .slice (some ⟨d, 0, none⟩) z c] _ _ HF.out.by_
   refine bodyPost_ret (results_cell_row rfl _ _ (w.heap.size + 1) _ _ (0, 0) _ rfl hrow Tryz.underlying157 rfl (by kernel_rfl)) rfl ?_
   have hg := HG.out
   refine ⟨g, h, d, c, by rw [HLZ.out], by omega, by omega, by omega, Lib.hid (HF.out.v.keep (setRow_other _ _ _ _ (by omega)) (setRow_other _ _ _ _ (by omega))), Lib.hid (HF.out.dat.keep fun b he => by
    have he : d = b := Option.some.inj he
    exact setRow_other _ _ _ _ (by omega)), Lib.hid (below_setRowB HF.out.b (Nat.le_succ _) _)⟩
end Go.Proofs.YtmncpgfdpcckpaaGreatDoor.El
namespace Go.Proofs.YtmncpgfdpcckpaaGreatDoor.El
open VecM Vc
theorem low_ex {X n : Nat} (hX : X < 2 ^ n) (h0 : X ≠ 0) : ∃ f, f < n ∧ X.testBit f = true ∧ ∀ j, j < f → X.testBit j = false := by
 have key : ∀ k, k ≤ n → (∃ f, f < k ∧ X.testBit f = true ∧ ∀ j, j < f → X.testBit j = false) ∨ ∀ j, j < k → X.testBit j = false := by
  intro k
  induction k with
  | zero => exact fun _ => .inr fun j hj => absurd hj (Nat.not_lt_zero j)
  | succ k ih =>
   intro hk
   rcases ih (by omega) with ⟨f, h1, h2⟩ | h
   ·exact .inl ⟨f, by omega, h2⟩
   ·cases hb : X.testBit k with
    | true => exact .inl ⟨k, by omega, hb, h⟩
    | false =>
     refine .inr fun j hj => ?_
     rcases Nat.lt_succ_iff_lt_or_eq.1 hj with h1 | h1
     ·exact h j h1
     ·rw [h1]; exact hb
 rcases key n (Nat.le_refl _) with h | h
 ·exact h
 ·exfalso
  apply h0
  apply Nat.eq_of_testBit_eq
  intro j
  rw [Nat.zero_testBit]
  by_cases hj : j < n
  ·exact h j hj
  ·exact Nat.testBit_lt_two_pow (Nat.lt_of_lt_of_le hX (Nat.pow_le_pow_right (by decide) (by omega)))
theorem L_empty {X f : Nat} (h : ∀ j, j < f → X.testBit j = false) : L X f = [] := by
 unfold L
 rw [List.filter_eq_nil_iff]
 intro j hj
 rw [List.mem_range] at hj
 rw [h j hj]; simp
theorem firstI_low {X f n : Nat} (hf : f < n) (hb : X.testBit f = true) (h : ∀ j, j < f → X.testBit j = false) : firstI (L X n) = (f : Int) := by
 have e : List.range n = List.range f ++ (f :: (List.range (n - f - 1)).map (f + 1 + ·)) := by
  have h1 : n = f + (n - f) := by omega
  have h2 : n - f = 1 + (n - f - 1) := by omega
  rw [h1, List.range_add, h2, List.range_add, List.map_append]
  have h3 : f + (1 + (n - f - 1)) - f - 1 = n - f - 1 := by omega
  rw [h3]
  simp [Nat.add_assoc]
 unfold L
 rw [e, List.filter_append]
 have h0 := L_empty h
 unfold L at h0
 rw [h0, List.nil_append, List.filter_cons, if_pos hb]
 rfl
theorem firstI_zero : firstI (Ls 0) = -1 := by
 unfold Ls; rw [L_zero]; rfl
def chgD (X : Nat) (l : List UInt8) (f : Nat) (o : Option (Nat × List UInt8)) : Option (Nat × List UInt8) := o.map fun r => if r.1.testBit f then (r.1 ^^^ X, xorL r.2 l) else r
def addM (M : Mx) (X : Nat) (l : List UInt8) (f : Nat) : Mx := (M.map (chgD X l f)).set f (some (X, l))
end Go.Proofs.YtmncpgfdpcckpaaGreatDoor.El
