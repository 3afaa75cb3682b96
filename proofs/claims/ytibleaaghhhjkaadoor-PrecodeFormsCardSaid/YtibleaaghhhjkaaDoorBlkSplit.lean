/- block.Split: by contract. -/
import Derived.Test.YtibleaaghhhjkaaDoorBlkCount
import Derived.Laws.CopyOwn
import Derived.Deep.RegionLaw
import Derived.Laws.NewBlocks
namespace Go.Proofs.YtibleaaghhhjkaaDoor
open Go.RowKit
/-- the cells of a list of c slices of s bytes, the first k made, in blocks behind g -/
def pcs (g s c k : Nat) : List Value := (List.range c).map fun j => if j < k then .slice (some ⟨g + 1 + j, 0, none⟩) s s else .slice none 0 0
theorem pcs_length (g s c k : Nat) : (pcs g s c k).length = c := by simp [pcs]
theorem pcs_zero (g s c : Nat) : List.replicate c (Value.slice none 0 0) = pcs g s c 0 := by
  apply List.ext_getElem <;> simp [pcs]
theorem pcs_get (g s c k j : Nat) (h : j < c) : (pcs g s c k)[j]? = some (if j < k then .slice (some ⟨g + 1 + j, 0, none⟩) s s else .slice none 0 0) := by simp [pcs, h]
theorem pcs_set (g s c k : Nat) (h : k < c) : (pcs g s c k).set k (.slice (some ⟨g + 1 + k, 0, none⟩) s s) = pcs g s c (k + 1) := by
  apply List.ext_getElem?
  intro j
  rw [List.getElem?_set]
  by_cases hj : j < c
  · rw [pcs_get _ _ _ _ _ hj, pcs_get _ _ _ _ _ hj]
    by_cases e : k = j
    · subst e; simp [pcs_length, h]
    · rw [if_neg e]
      by_cases h1 : j < k
      · rw [if_pos h1, if_pos (by omega)]
      · rw [if_neg h1, if_neg (by omega)]
  · have h1 : (pcs g s c k)[j]? = none := List.getElem?_eq_none (by rw [pcs_length]; omega)
    have h2 : (pcs g s c (k + 1))[j]? = none := List.getElem?_eq_none (by rw [pcs_length]; omega)
    rw [h1, h2]
    split
    · split
      · rename_i h3; rw [pcs_length] at h3; omega
      · rfl
    · rfl
def SplitW (l : List UInt8) (s c g k : Nat) (w wr : World) : Prop :=
  wr.heap.size = g + 1 + k ∧ wr.heap[g]? = some (.cells (pcs g s c k).toArray 65 (0, 0)) ∧ (∀ j, j < k → wr.heap[g + 1 + j]? = some (.cells (bv (BlkM.piece l s j)).toArray 5 (0, 0))) ∧ Below g w wr
def SplitOk (l : List UInt8) (s c : Nat) (w : World) (e : Ending) (w' : World) : Prop :=
  e = .returned (.slice (some ⟨w.heap.size, 0, none⟩) c c) ∧ SplitW l s c w.heap.size c w w'
theorem made_list (v : Value) (n : Nat) : madeCells #[v] n = Array.replicate n v := by
  apply Array.toList_inj.1
  rw [toList_madeCells_one]; simp
theorem mk_rows (c : Nat) (hc : c ≤ 1000) (w : World) : (Instr.makeSlice 39 (.int .i64 (c : Int)) (.int .i64 (c : Int))).run Tryd.prog w = .ok (.slice (some ⟨w.heap.size, 0, none⟩) c c) (w.alloc (.cells (Array.replicate c (.slice none 0 0)) 65)) := by
  obtain ⟨i0, hi, hz0, hz1, hz2⟩ := info_parts Tryd.info65
  have := run_make (P := Tryd.prog) w 39 65 i0 (.slice none 0 0) Tryd.underlying39 hi hz0 .i64 .i64 c c (by omega) (Int.le_refl _) (by rw [hz2]; omega) (by omega)
  simpa [hz1, Value.cells, made_list] using this
theorem mk_bytes (c : Nat) (hc : c ≤ 1000000000) (w : World) : (Instr.makeSlice 65 (.int .i64 (c : Int)) (.int .i64 (c : Int))).run Tryd.prog w = .ok (.slice (some ⟨w.heap.size, 0, none⟩) c c) (w.alloc (.cells (Array.replicate c (.int .u8 0)) 5)) := by
  obtain ⟨i0, hi, hz0, hz1, hz2⟩ := info_parts Tryd.info5
  have := run_make (P := Tryd.prog) w 65 5 i0 (.int .u8 0) Tryd.underlying65 hi hz0 .i64 .i64 c c (by omega) (Int.le_refl _) (by rw [hz2]; omega) (by omega)
  simpa [hz1, Value.cells, made_list] using this
theorem step_copy_row {P : Program} {ops : Array Oper} {o : Oper} {a : Act} {w : World} {K : Act → World → Prop} {Q : Exit → Act → World → Prop} {E : Prop} (hgd : o.guard = none) (d s : Operand) (dT sT : TypeId)
    (ho : o.op = .call { callee := .builtin .copy, args := #[d, s], argTypes := #[dT, sT] }) (elem : TypeId) (hu : P.underlying dT = some (.slice elem)) (hsz : (P.info? elem).map (·.size) = some 1)
    (g off : Nat) (ad : Addr) (dLen dCap sLen sCap : Nat) (hd : a.eval d = .slice (some ⟨g, off, none⟩) dLen dCap) (hs : a.eval s = .slice (some ad) sLen sCap)
    (cur : List Value) (t : TypeId) (hg : w.heap[g]? = some (.cells cur.toArray t (0, 0))) (cs : List Value) (hn : cs.length = Nat.min sLen dLen)
    (hsrc : ∀ j v, cs[j]? = some v → w.cell? (ad.add j) = some v)
    (hfit : off + cs.length ≤ cur.length) (h1 : ∀ v ∈ cs, v.oneCell' = true)
    (h : K (a.put o.dst (goInt cs.length)) (w.setRow g (splice cur off cs).toArray)) :
    if Region.wanted o (yielded ops a.tmps) = true then Oper.wp P o a w K Q else E := by
  have hw : Region.wanted o (yielded ops a.tmps) = true := by simp [Region.wanted, hgd]
  rw [if_pos hw]
  have hrun := run_copy_row (P := P) w dT sT o.type elem g off dLen dCap ad sLen sCap cur.toArray t cs hu hsz hg hn hsrc (by simpa using hfit) h1
  unfold Oper.wp
  simp [execOp, ho, resolve, invoke, builtin, hd, hs, hrun, Result.andThen]
  have h' : K (a.put o.dst (goInt cs.length)) (w.setRow g (cur.take off ++ (cs ++ cur.drop (off + cs.length))).toArray) := h
  exact h'
/-- what round k does to memory ahead of its copy -/
theorem split_step {l : List UInt8} {s c g k : Nat} {w wr : World} (h : SplitW l s c g k w wr) (hk : k < c) (u : Obj) :
    (wr.alloc u).cell? ⟨g, k, none⟩ = some (.slice none 0 0) ∧ (wr.alloc u).frozen? ⟨g, k, none⟩ = false ∧
    ((wr.alloc u).setCell ⟨g, k, none⟩ (.slice (some ⟨g + 1 + k, 0, none⟩) s s)).heap[g]? = some (.cells (pcs g s c (k + 1)).toArray 65 (0, 0)) ∧
    ((wr.alloc u).setCell ⟨g, k, none⟩ (.slice (some ⟨g + 1 + k, 0, none⟩) s s)).heap[g + 1 + k]? = some u ∧
    (∀ j, j < k → ((wr.alloc u).setCell ⟨g, k, none⟩ (.slice (some ⟨g + 1 + k, 0, none⟩) s s)).heap[g + 1 + j]? = some (.cells (bv (BlkM.piece l s j)).toArray 5 (0, 0))) ∧
    ((wr.alloc u).setCell ⟨g, k, none⟩ (.slice (some ⟨g + 1 + k, 0, none⟩) s s)).heap.size = g + 1 + (k + 1) ∧
    Below g w ((wr.alloc u).setCell ⟨g, k, none⟩ (.slice (some ⟨g + 1 + k, 0, none⟩) s s)) := by
  obtain ⟨h1, h2, h3, h4⟩ := h
  have hold : ∀ b, b < g + 1 + k → (wr.alloc u).heap[b]? = wr.heap[b]? := fun b hb => ((Below.refl wr.heap.size wr).alloc (Nat.le_refl _) u).block b (by omega)
  have ha : (wr.alloc u).heap[g]? = some (.cells (pcs g s c k).toArray 65 (0, 0)) := (hold g (by omega)).trans h2
  have hset := heap_setCell_same (wr.alloc u) g k (pcs g s c k).toArray 65 (.slice (some ⟨g + 1 + k, 0, none⟩) s s) ha
  refine ⟨?_, ?_, ?_, ?_, ?_, ?_, ?_⟩
  · rw [cell_of_row _ g k _ _ _ ha]; simp [pcs_get _ _ _ _ _ hk]
  · exact frozen_of_row _ g k _ _ ha
  · rw [hset]; simp [pcs_set _ _ _ _ hk]
  · rw [heap_setCell_other _ _ _ _ (by show g + 1 + k ≠ g; omega), ← h1]; exact heap_alloc_new wr u
  · intro j hj
    rw [heap_setCell_other _ _ _ _ (by show g + 1 + j ≠ g; omega), hold _ (by omega)]
    exact h3 j hj
  · simp [h1]; omega
  · exact (h4.alloc (by omega) u).setCell (Nat.le_refl _) _
/-- the bytes that round k copies -/
def part (l : List UInt8) (s k : Nat) : List UInt8 := (l.drop (k * s)).take s
theorem piece_splice (l : List UInt8) (s k : Nat) : splice (List.replicate s (Value.int .u8 0)) 0 (bv (part l s k)) = bv (BlkM.piece l s k) := by
  simp [splice, BlkM.piece, part, bv]
def splitRows (l : List UInt8) (s c g : Nat) : List BRow := (List.range c).map fun j => ⟨some ⟨g + 1 + j, 0, none⟩, s, s, BlkM.piece l s j⟩
theorem splitRows_flat (l : List UInt8) (s c g : Nat) (h : l.length ≤ c * s) : flat (splitRows l s c g) = BlkM.pad l (c * s) := by
  rw [← BlkM.pieces_flat l s c h]
  simp [flat, splitRows, List.flatMap_map, List.flatMap_def]
  rfl
theorem SplitW.rows {l : List UInt8} {s c g : Nat} {w w' : World} (h : SplitW l s c g c w w') : Rows2 w' w'.heap.size (some ⟨g, 0, none⟩) c (splitRows l s c g) := by
  obtain ⟨h1, h2, h3, h4⟩ := h
  refine ⟨⟨by simp [splitRows], fun _ => ⟨g, 0, rfl, by omega, fun j u hu => ?_⟩⟩, ?_⟩
  · rw [Nat.zero_add, cell_of_row _ g j _ _ _ h2]
    have hj : j < c := by have := (List.getElem?_eq_some_iff.1 hu).1; simpa [splitRows] using this
    rw [← hu]
    simp [pcs, splitRows, hj, BRow.val]
  · intro r hr
    simp only [splitRows, List.mem_map, List.mem_range] at hr
    obtain ⟨j, hj, rfl⟩ := hr
    refine ⟨by rw [bv_length, BlkM.piece_length], fun _ => ⟨g + 1 + j, 0, rfl, by omega, fun i u hu => ?_⟩⟩
    rw [Nat.zero_add, cell_of_row _ _ i _ _ _ (h3 j hj)]
    simpa using hu
end Go.Proofs.YtibleaaghhhjkaaDoor
