/- DigestLong's walk. -/
import Derived.Deep.DeepCutAuto
import Derived.Test.YtcgcmfhidolohaaDoorDgOnceQ
namespace Go.Proofs.YtcgcmfhidolohaaDoor.Sh
open Go.RowKit
theorem Tryd.info23 : (Tryd.prog.info? 23).map (fun i => (i.zero, i.size, i.bytes)) = some (some (.slice none 0 0), 1, 24) := by kernel_rfl
theorem made_list (v : Value) (n : Nat) : madeCells #[v] n = Array.replicate n v := by
  apply Array.toList_inj.1
  rw [toList_madeCells_one]; simp
theorem mk_bytes (c : Nat) (hc : c ≤ 1000000000) (w : World) : (Instr.makeSlice 23 (.int .i64 (c : Int)) (.int .i64 (c : Int))).run Tryd.prog w = .ok (.slice (some ⟨w.heap.size, 0, none⟩) c c) (w.alloc (.cells (Array.replicate c (.int .u8 0)) 5)) := by
  obtain ⟨i0, hi, hz0, hz1, hz2⟩ := info_parts Tryd.info5
  have := run_make (P := Tryd.prog) w 23 5 i0 (.int .u8 0) Tryd.underlying23 hi hz0 .i64 .i64 c c (by omega) (Int.le_refl _) (by rw [hz2]; omega) (by omega)
  simpa [hz1, Value.cells, made_list] using this
/-- the rows of one byte each -/
def ones (g n k : Nat) : List Value := (List.range k).map fun j => Value.slice (some ⟨g, j, none⟩) 1 (n - j)
def onesB (g n k : Nat) (x : UInt8) : List BRow := (List.range k).map fun j => ⟨some ⟨g, j, none⟩, 1, n - j, [x]⟩
theorem onesB_flat (g n k : Nat) (x : UInt8) : flat (onesB g n k x) = List.replicate k x := by
  induction k with
  | zero => rfl
  | succ k ih =>
    have e : onesB g n (k + 1) x = onesB g n k x ++ [⟨some ⟨g, k, none⟩, 1, n - k, [x]⟩] := by simp [onesB, List.range_succ]
    rw [e, flat_snoc, ih, List.replicate_succ']
theorem onesB_val (g n k : Nat) (x : UInt8) : (onesB g n k x).map BRow.val = ones g n k := by
  simp [onesB, ones, BRow.val]
/-- block g: n bytes, the first k of them x -/
def LongB (g n k : Nat) (x : UInt8) (wr : World) : Prop := ∃ cs : Array Value, wr.heap[g]? = some (.cells cs 5 (0, 0)) ∧ cs.size = n ∧ ∀ j, j < k → cs[j]? = some (.int .u8 (x.toNat : Int))
def LongA (w : World) (g n k : Nat) (x : UInt8) (A : Option Addr) (c : Nat) (wr : World) : Prop :=
  wr.ownsRow (g + 1) 23 1 (.slice A k c) k (ones g n k) ∧ LongB g n k x wr ∧ Below w.heap.size w wr
theorem LongB.row {g n k j m : Nat} {x : UInt8} {wr : World} (h : LongB g n k x wr) (hj : j + m ≤ k) : Row wr wr.heap.size (some ⟨g, j, none⟩) m (bv (List.replicate m x)) := by
  obtain ⟨cs, hg, hs, hc⟩ := h
  refine ⟨by rw [bv_length, List.length_replicate], fun hm => ⟨g, j, rfl, (Array.getElem?_eq_some_iff.1 hg).1, fun i u hu => ?_⟩⟩
  have hi : i < m := by have := (List.getElem?_eq_some_iff.1 hu).1; rw [bv_length, List.length_replicate] at this; exact this
  rw [cell_of_row wr g (j + i) cs _ (0, 0) hg, hc (j + i) (by omega), ← hu, bv_get _ i (by rw [List.length_replicate]; exact hi), List.getElem_replicate]
theorem own_rows {w : World} {B : Nat} {A : Option Addr} {n c : Nat} {xs : List Value} (h : w.ownsRow B 23 1 (.slice A n c) n xs) : Row w w.heap.size A n xs := Row.of_own h
end Go.Proofs.YtcgcmfhidolohaaDoor.Sh
