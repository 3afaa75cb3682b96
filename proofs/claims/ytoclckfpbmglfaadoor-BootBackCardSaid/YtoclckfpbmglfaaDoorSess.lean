/- law19.First, Heavy, law22.good: by contracts. -/
import Derived.Test.YtoclckfpbmglfaaDoorDrop
import Derived.Test.YtoclckfpbmglfaaDoorHeavy
namespace Go.Proofs.YtoclckfpbmglfaaDoor
open Go.RowKit
theorem made_list (v : Value) (n : Nat) : madeCells #[v] n = Array.replicate n v := by
  apply Array.toList_inj.1
  rw [toList_madeCells_one]; simp
theorem mk_bytes (c : Nat) (hc : c ≤ 1000000000) (w : World) : (Instr.makeSlice 23 (.int .i64 (c : Int)) (.int .i64 (c : Int))).run Tryd.prog w = .ok (.slice (some ⟨w.heap.size, 0, none⟩) c c) (w.alloc (.cells (Array.replicate c (.int .u8 0)) 5)) := by
  obtain ⟨i0, hi, hz0, hz1, hz2⟩ := info_parts Tryd.info5
  have := run_make (P := Tryd.prog) w 23 5 i0 (.int .u8 0) Tryd.underlying23 hi hz0 .i64 .i64 c c (by omega) (Int.le_refl _) (by rw [hz2]; omega) (by omega)
  simpa [hz1, Value.cells, made_list] using this
def n32 : List UInt8 := List.replicate 32 0
theorem n32_length : n32.length = 32 := by simp [n32]
theorem n32_row (w : World) (g : Nat) (h : w.heap[g]? = some (.cells (Array.replicate 32 (.int .u8 0)) 5 (0, 0))) {B : Nat} (hB : B ≤ g) : RowF w B (some ⟨g, 0, none⟩) 32 (bv n32) := by
  have e : bv n32 = List.replicate 32 (Value.int .u8 0) := by simp [bv, n32]
  refine ⟨by rw [bv_length, n32_length], fun _ => ⟨g, 0, rfl, (Array.getElem?_eq_some_iff.1 h).1, hB, fun j v hv => ?_⟩⟩
  rw [Nat.zero_add, cell_of_row w g j _ _ (0, 0) h, ← hv, e, Array.getElem?_replicate, List.getElem?_replicate]
def GoodOk (ver : Nat) (w : World) (e : Ending) (w' : World) : Prop :=
  ∃ A c, e = .returned (.agg #[.int .u32 1, .int .u32 (ver : Int), .int .i64 3, .int .i64 2, .int .i64 0, .slice A 32 c]) ∧ Hid (RowF w' w.heap.size A 32 (bv n32)) ∧ Hid (Below w.heap.size w w')
def zMan : Array Value := #[.int .u32 0, .int .u32 0, .int .i64 0, .int .i64 0, .int .i64 0, .slice none 0 0]
end Go.Proofs.YtoclckfpbmglfaaDoor
