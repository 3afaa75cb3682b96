/- elim: a matrix as it lies in memory; empty, New by contract. -/
import Derived.Test.YtgeodhffgbhmaaaDoorVecBag
import Derived.Test.YtgeodhffgbhmaaaDoorClone
import Derived.Test.YtgeodhffgbhmaaaDoorXl
import Derived.Laws.BitsAllLaws
import Derived.Laws.LoneSync
import Derived.Deep.WholeRow
import Derived.Deep.RegionHeld3
namespace Go.Proofs.YtgeodhffgbhmaaaDoor.El
open Go.RowKit
open VecM Vc
/-- bytes l lie at the head of a block of their own -/
def DatAt (W : World) (A : Option Addr) (c : Nat) (l : List UInt8) : Prop := W.ownsRow 0 5 1 (.slice A l.length c) l.length (bv l)
def blk (A : Option Addr) : Option Nat := A.map (·.block)
theorem own_keep {W W' : World} {base n c : Nat} {e : TypeId} {A : Option Addr} {xs : List Value} (h : W.ownsRow base e 1 (.slice A n c) n xs) (hk : ∀ b, blk A = some b → W'.heap[b]? = W.heap[b]?) : W'.ownsRow base e 1 (.slice A n c) n xs := by
  refine ⟨h.1, ?_⟩
  rcases h.2 with h0 | ⟨g, cap, cur, hv, hb, hg, r⟩
  · exact .inl h0
  · refine .inr ⟨g, cap, cur, hv, hb, ?_, r⟩
    injection hv with e1
    rw [hk g (by rw [e1]; rfl)]
    exact hg
section
variable {W W' : World} {A : Option Addr} {c d : Nat} {l : List UInt8}
theorem DatAt.keep (h : DatAt W A c l) (hk : ∀ b, blk A = some b → W'.heap[b]? = W.heap[b]?) : DatAt W' A c l := own_keep h hk
theorem DatAt.row (h : DatAt W A c l) : Row W W.heap.size A l.length (bv l) := Row.of_own h
theorem DatAt.blk_u8 (h : DatAt W A c l) (hb : blk A = some d) : ∃ cur, W.heap[d]? = some (.cells cur 5 (0, 0)) := by
  rcases h.2 with ⟨h0, _⟩ | ⟨g, cap, cur, hv, _, hg, _⟩
  · injection h0 with e1; rw [e1] at hb; cases hb
  · injection hv with e1
    rw [e1] at hb
    injection hb with hb
    have hb : g = d := hb
    subst hb
    exact ⟨cur, hg⟩
theorem DatAt.lt (h : DatAt W A c l) (hb : blk A = some d) : d < W.heap.size := by
  obtain ⟨cur, hg⟩ := h.blk_u8 hb
  exact (Array.getElem?_eq_some_iff.1 hg).1
theorem DatAt.some (h : DatAt W A c l) (hl : 0 < l.length) : ∃ d, A = some ⟨d, 0, none⟩ := by
  rcases h.2 with ⟨_, h0⟩ | ⟨g, cap, cur, hv, _⟩
  · omega
  · injection hv with e1; exact ⟨g, e1⟩
end
/-- of unlike types blocks are others -/
theorem ne_of_types {W : World} {a b : Nat} {c1 c2 : Array Value} {t1 t2 : TypeId} {f1 f2 : Nat × Nat} (h1 : W.heap[a]? = some (.cells c1 t1 f1)) (h2 : W.heap[b]? = some (.cells c2 t2 f2)) (ht : t1 ≠ t2) : a ≠ b := by
  intro e; subst e; rw [h1] at h2; injection h2 with h2; injection h2 with _ h2 _; exact ht h2
theorem VecAt.hblk {W : World} {g h n X : Nat} (v : VecAt W g h n X) : ∃ cs, W.heap[h]? = some (.cells cs 52 (0, 0)) := by
  obtain ⟨_, _, _, cap, cs, _, h2, _⟩ := v; exact ⟨cs, h2⟩
theorem VecAt.gblk {W : World} {g h n X : Nat} (v : VecAt W g h n X) : ∃ cs, W.heap[g]? = some (.cells cs 101 (0, 0)) := by
  obtain ⟨_, _, _, cap, cs, h1, _⟩ := v; exact ⟨_, h1⟩
/-- a row of a matrix -/
structure ER where
  g : Nat
  h : Nat
  d : Nat
  c : Nat
  X : Nat
  l : List UInt8
def ptrOf : Option ER → Value
  | none => .pointer none
  | some r => .pointer (some ⟨r.g, 0, none⟩)
def slcOf : Option ER → Value
  | none => .slice none 0 0
  | some r => .slice (some ⟨r.d, 0, none⟩) r.l.length r.c
def rankE (rs : List (Option ER)) : Nat := (rs.filter Option.isSome).length
/-- block gm is a matrix of n columns, with data of z bytes; rs its rows, in block gr; all its blocks are of F -/
structure MatAt (W : World) (F : Nat → Prop) (gm gr n z : Nat) (rs : List (Option ER)) : Prop where
  n1 : 1 ≤ n
  n2 : n ≤ 256
  z1 : 1 ≤ z
  z2 : z ≤ 16
  len : rs.length = n
  head : W.heap[gm]? = some (.cells #[.int .i64 (n : Int), .int .i64 (z : Int), .slice (some ⟨gr, 0, none⟩) n n, .int .i64 (rankE rs : Int)] 69 (0, 0))
  rows : ∃ cs, W.heap[gr]? = some (.cells cs 73 (0, 0)) ∧ cs.size = n * 2 ∧ ∀ i, i < n → cs[i * 2]? = some (ptrOf (rs.getD i none)) ∧ cs[i * 2 + 1]? = some (slcOf (rs.getD i none))
  at_ : ∀ (i : Nat) (r : ER), rs[i]? = some (some r) → VecAt W r.g r.h n r.X ∧ DatAt W (some ⟨r.d, 0, none⟩) r.c r.l ∧ r.l.length = z ∧ F r.g ∧ F r.h ∧ F r.d
  apart : ∀ (i j : Nat) (r s : ER), i ≠ j → rs[i]? = some (some r) → rs[j]? = some (some s) → r.h ≠ s.h ∧ r.d ≠ s.d
  fm : F gm
  fr : F gr
section
variable {W W' : World} {F F' : Nat → Prop} {gm gr n z : Nat} {rs : List (Option ER)}
theorem MatAt.keep (m : MatAt W F gm gr n z rs) (hk : ∀ b, F b → b < W.heap.size → W'.heap[b]? = W.heap[b]?) : MatAt W' F gm gr n z rs := by
  have lt : ∀ {b o}, W.heap[b]? = some o → b < W.heap.size := fun h => (Array.getElem?_eq_some_iff.1 h).1
  refine ⟨m.n1, m.n2, m.z1, m.z2, m.len, (hk gm m.fm (lt m.head)).trans m.head, ?_, fun i r hr => ?_, m.apart, m.fm, m.fr⟩
  · obtain ⟨cs, h1, h2⟩ := m.rows
    exact ⟨cs, (hk gr m.fr (lt h1)).trans h1, h2⟩
  · obtain ⟨a1, a2, a3, a4, a5, a6⟩ := m.at_ i r hr
    refine ⟨a1.keep (hk _ a4 a1.lt.1) (hk _ a5 a1.lt.2), a2.keep fun b hb => ?_, a3, a4, a5, a6⟩
    injection hb with hb
    have hb : r.d = b := hb
    subst hb
    exact hk _ a6 (a2.lt rfl)
theorem MatAt.below (m : MatAt W F gm gr n z rs) (hb : Below W.heap.size W W') : MatAt W' F gm gr n z rs := m.keep fun b _ h => hb.block b h
theorem MatAt.lt (m : MatAt W F gm gr n z rs) : gm < W.heap.size ∧ gr < W.heap.size :=
  ⟨(Array.getElem?_eq_some_iff.1 m.head).1, by obtain ⟨cs, h, _⟩ := m.rows; exact (Array.getElem?_eq_some_iff.1 h).1⟩
theorem MatAt.more (m : MatAt W F gm gr n z rs) (hF : ∀ b, F b → F' b) : MatAt W F' gm gr n z rs :=
  ⟨m.n1, m.n2, m.z1, m.z2, m.len, m.head, m.rows, fun i r hr => by obtain ⟨a1, a2, a3, a4, a5, a6⟩ := m.at_ i r hr; exact ⟨a1, a2, a3, hF _ a4, hF _ a5, hF _ a6⟩, m.apart, hF _ m.fm, hF _ m.fr⟩
theorem MatAt.cells (m : MatAt W F gm gr n z rs) : W.cell? ⟨gm, 0, none⟩ = some (.int .i64 (n : Int)) ∧ W.cell? ⟨gm, 1, none⟩ = some (.int .i64 (z : Int)) ∧ W.cell? ⟨gm, 2, none⟩ = some (.slice (some ⟨gr, 0, none⟩) n n) ∧ W.cell? ⟨gm, 3, none⟩ = some (.int .i64 (rankE rs : Int)) := by
  refine ⟨?_, ?_, ?_, ?_⟩ <;> rw [cell_of_row W gm _ _ _ (0, 0) m.head] <;> rfl
theorem MatAt.row (m : MatAt W F gm gr n z rs) {i : Nat} (hi : i < n) : W.cell? ⟨gr, i * 2, none⟩ = some (ptrOf (rs.getD i none)) ∧ W.cell? ⟨gr, i * 2 + 1, none⟩ = some (slcOf (rs.getD i none)) := by
  obtain ⟨cs, h, _, hc⟩ := m.rows
  exact ⟨by rw [cell_of_row W gr _ cs _ (0, 0) h]; exact (hc i hi).1, by rw [cell_of_row W gr _ cs _ (0, 0) h]; exact (hc i hi).2⟩
theorem MatAt.frozen (m : MatAt W F gm gr n z rs) (k : Nat) : W.frozen? ⟨gr, k, none⟩ = false ∧ W.frozen? ⟨gm, k, none⟩ = false := by
  obtain ⟨cs, h, _⟩ := m.rows
  exact ⟨frozen_of_row W gr k cs _ h, frozen_of_row W gm k _ _ m.head⟩
end
set_option maxRecDepth 100000 in
theorem empty_nil (w : World) : Calls Tryd.prog 27 #[.pointer none] w fun e w' => e = .returned (.bool true) ∧ w = w' := by
  go_enter Tryd.func27, Tryd.ntmps27
  go_wp2_with fail
  go_ret
  exact ⟨rfl, rfl⟩
set_option maxRecDepth 100000 in
theorem empty_no (F : Nat → Prop) (gm gr n z : Nat) (rs : List (Option ER)) (w : World) (m : MatAt w F gm gr n z rs) : Calls Tryd.prog 27 #[.pointer (some ⟨gm, 0, none⟩)] w fun e w' => e = .returned (.bool false) ∧ w = w' := by
  obtain ⟨c0, _⟩ := m.cells
  have h1 := m.n1
  have hn : ((n : Int) == 0) = false := by simp; omega
  have hn0 : ¬ n = 0 := by omega
  clear m
  go_enter Tryd.func27, Tryd.ntmps27
  go_wp2_with fail
  go_ret
  exact ⟨rfl, rfl⟩
theorem rankE_rep (n : Nat) : rankE (List.replicate n none) = 0 := by
  unfold rankE
  rw [List.filter_eq_nil_iff.2]
  · rfl
  · intro a ha; rw [List.mem_replicate] at ha; rw [ha.2]; simp
theorem infoRow : (Tryd.prog.info? 73).map (fun i => (i.zero, i.size, i.bytes)) = some (some (.agg #[.pointer none, .slice none 0 0]), 2, 32) := by kernel_rfl
theorem made_rows (n : Nat) (hn : n ≤ 256) : ∃ C : Array Value, C.size = n * 2 ∧ (∀ i, i < n → C[i * 2]? = some (.pointer none) ∧ C[i * 2 + 1]? = some (.slice none 0 0)) ∧ ∀ w : World, (Instr.makeSlice 62 (.int .i64 (n : Int)) (.int .i64 (n : Int))).run Tryd.prog w = .ok (.slice (some ⟨w.heap.size, 0, none⟩) n n) (w.alloc (.cells C 73)) := by
  obtain ⟨i0, hi, hz0, hz1, hz2⟩ := info_parts infoRow
  have h := fun w => run_make (P := Tryd.prog) w 62 73 i0 (.agg #[.pointer none, .slice none 0 0]) Tryd.underlying62 hi hz0 .i64 .i64 (n : Int) (n : Int) (by omega) (by omega) (by rw [hz2]; omega) (by omega)
  refine ⟨madeCells #[.pointer none, .slice none 0 0] (n * 2), ?_, fun i hin => ?_, fun w => ?_⟩
  · simp [madeCells]
  · have e1 : i * 2 < n * 2 := by omega
    have e2 : i * 2 + 1 < n * 2 := by omega
    have e3 : i * 2 % 2 = 0 := by omega
    have e4 : (i * 2 + 1) % 2 = 1 := by omega
    constructor <;> simp [madeCells, e1, e2, e3, e4]
  · rw [h w, hz1]
    simp [Value.cells]
end Go.Proofs.YtgeodhffgbhmaaaDoor.El
