/- law19.First, Heavy, law22.good: by contracts. -/
import Derived.Test.YtdipccjgpkedhaaDrop
import Derived.Test.YtdipccjgpkedhaaHeavy
namespace Go.Proofs.Ytdipccjgpkedhaa
open Go.RowKit
theorem made_list (v : Value) (n : Nat) : madeCells #[v] n = Array.replicate n v := by
  apply Array.toList_inj.1
  rw [toList_madeCells_one]; simp
theorem mk_bytes (c : Nat) (hc : c ≤ 1000000000) (w : World) : (Instr.makeSlice 23 (.int .i64 (c : Int)) (.int .i64 (c : Int))).run Try.prog w = .ok (.slice (some ⟨w.heap.size, 0, none⟩) c c) (w.alloc (.cells (Array.replicate c (.int .u8 0)) 5)) := by
  obtain ⟨i0, hi, hz0, hz1, hz2⟩ := info_parts Try.info5
  have := run_make (P := Try.prog) w 23 5 i0 (.int .u8 0) Try.underlying23 hi hz0 .i64 .i64 c c (by omega) (Int.le_refl _) (by rw [hz2]; omega) (by omega)
  simpa [hz1, Value.cells, made_list] using this
def n32 : List UInt8 := List.replicate 32 0
theorem n32_length : n32.length = 32 := by simp [n32]
theorem n32_row (w : World) (g : Nat) (h : w.heap[g]? = some (.cells (Array.replicate 32 (.int .u8 0)) 5 (0, 0))) {B : Nat} (hB : B ≤ g) : RowF w B (some ⟨g, 0, none⟩) 32 (bv n32) := by
  have e : bv n32 = List.replicate 32 (Value.int .u8 0) := by simp [bv, n32]
  refine ⟨by rw [bv_length, n32_length], fun _ => ⟨g, 0, rfl, (Array.getElem?_eq_some_iff.1 h).1, hB, fun j v hv => ?_⟩⟩
  rw [Nat.zero_add, cell_of_row w g j _ _ (0, 0) h, ← hv, e, Array.getElem?_replicate, List.getElem?_replicate]
def GoodOk (ver : Nat) (w : World) (e : Ending) (w' : World) : Prop :=
  ∃ A c, e = .returned (.agg #[.int .u32 1, .int .u32 (ver : Int), .int .i64 3, .int .i64 2, .int .i64 0, .slice A 32 c]) ∧ Hid (RowF w' w.heap.size A 32 (bv n32)) ∧ Hid (Below w.heap.size w w')
def zMan : Array Value := #[.int .u32 0, .int .u32 0, .int .i64 0, .int .i64 0, .int .i64 0, .slice none 0 0]
set_option maxRecDepth 100000 in
set_option maxHeartbeats 800000 in
theorem good_any (ver : Nat) (w : World) : Calls Try.prog 42 #[.int .u32 (ver : Int)] w (GoodOk ver w) := by
  obtain ⟨Z, hZ⟩ : ∃ Z, Array.replicate 32 (Value.int .u8 0) = Z := ⟨_, rfl⟩
  have hm : ∀ W, (Instr.makeSlice 23 (.int .i64 32) (.int .i64 32)).run Try.prog W = .ok (.slice (some ⟨W.heap.size, 0, none⟩) 32 32) (W.alloc (.cells Z 5)) := by
    intro W; rw [← hZ]; exact mk_bytes 32 (by omega) W
  have HZ := Lib.hid hZ
  have HG := Lib.hid (heap_alloc2_old w (.cells zMan 28) (.cells Z 5))
  have HH := Lib.hid (heap_alloc2_new w (.cells zMan 28) (.cells Z 5))
  have HB : Hid (Below w.heap.size w ((w.alloc (.cells zMan 28)).alloc (.cells Z 5))) := ((Below.refl _ _).alloc (Nat.le_refl _) _).alloc (by simp) _
  clear hZ
  go_enter Try.func42, Try.ntmps42
  go_wp2_with ((with_reducible show wpList _ _ _ _ _ _); refine wpList_store_row rfl _ (.tmp 2) (.tmp 5) rfl w.heap.size #[.int .u32 1, .int .u32 (ver : Int), .int .i64 3, .int .i64 2, .int .i64 0, .slice (some ⟨w.heap.size + 1, 0, none⟩) 32 32] rfl rfl _ _ HG.out (by kernel_rfl) (by rfl) (by simp [Value.oneCell']) ?_)
  have hrow := setRow_heap _ _ _ #[.int .u32 1, .int .u32 (ver : Int), .int .i64 3, .int .i64 2, .int .i64 0, .slice (some ⟨w.heap.size + 1, 0, none⟩) 32 32] _ _ HG.out
  refine bodyPost_ret (results_cell_row rfl _ _ w.heap.size _ _ (0, 0) _ rfl hrow Try.underlying28 rfl (by kernel_rfl)) rfl ?_
  refine ⟨_, _, rfl, n32_row _ (w.heap.size + 1) ?_ (Nat.le_succ _), below_setRow2 HB.out (Nat.le_refl _) _⟩
  rw [setRow_other _ _ _ _ (by omega), HZ.out]
  exact HH.out
end Go.Proofs.Ytdipccjgpkedhaa
