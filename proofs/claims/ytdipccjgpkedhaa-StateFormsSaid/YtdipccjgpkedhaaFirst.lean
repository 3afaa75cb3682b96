/- law19.First: by contract. -/
import Derived.Test.YtdipccjgpkedhaaSess
namespace Go.Proofs.Ytdipccjgpkedhaa
open Go.RowKit
def FirstOk (w : World) (e : Ending) (w' : World) : Prop :=
  ∃ A c, e = .returned (.agg #[.int .i64 0, .int .i64 0, .int .u32 0, .int .u32 0, .int .u32 1, .int .i64 3, .slice A 32 c, .int .u32 0, .int .i64 0, .slice none 0 0, .bool false, .int .u32 0, .int .u32 0, .int .i64 0, .int .i64 0, .int .i64 0, .slice none 0 0]) ∧ Hid (RowF w' w.heap.size A 32 (bv n32)) ∧ Hid (Below w.heap.size w w')
set_option maxRecDepth 100000 in
set_option maxHeartbeats 800000 in
theorem first_any (w : World) : Calls Try.prog 20 #[] w (FirstOk w) := by
  obtain ⟨Z, hZ⟩ : ∃ Z, Array.replicate 32 (Value.int .u8 0) = Z := ⟨_, rfl⟩
  have hm : ∀ W, (Instr.makeSlice 23 (.int .i64 32) (.int .i64 32)).run Try.prog W = .ok (.slice (some ⟨W.heap.size, 0, none⟩) 32 32) (W.alloc (.cells Z 5)) := by
    intro W; rw [← hZ]; exact mk_bytes 32 (by omega) W
  have HZ := Lib.hid hZ
  have HG := Lib.hid (heap_alloc2_old w (.cells zState 30) (.cells Z 5))
  have HH := Lib.hid (heap_alloc2_new w (.cells zState 30) (.cells Z 5))
  have HB : Hid (Below w.heap.size w ((w.alloc (.cells zState 30)).alloc (.cells Z 5))) := ((Below.refl _ _).alloc (Nat.le_refl _) _).alloc (by simp) _
  clear hZ
  go_enter Try.func20, Try.ntmps20
  go_wp2_with ((with_reducible show wpList _ _ _ _ _ _); refine wpList_store_row rfl _ (.tmp 0) (.tmp 5) rfl w.heap.size #[.int .i64 0, .int .i64 0, .int .u32 0, .int .u32 0, .int .u32 1, .int .i64 3, .slice (some ⟨w.heap.size + 1, 0, none⟩) 32 32, .int .u32 0, .int .i64 0, .slice none 0 0, .bool false, .int .u32 0, .int .u32 0, .int .i64 0, .int .i64 0, .int .i64 0, .slice none 0 0] rfl rfl _ _ HG.out (by kernel_rfl) (by rfl) (by simp [Value.oneCell']) ?_)
  have hrow := setRow_heap _ _ _ #[.int .i64 0, .int .i64 0, .int .u32 0, .int .u32 0, .int .u32 1, .int .i64 3, .slice (some ⟨w.heap.size + 1, 0, none⟩) 32 32, .int .u32 0, .int .i64 0, .slice none 0 0, .bool false, .int .u32 0, .int .u32 0, .int .i64 0, .int .i64 0, .int .i64 0, .slice none 0 0] _ _ HG.out
  refine bodyPost_ret (results_cell_row rfl _ _ w.heap.size _ _ (0, 0) _ rfl hrow Try.underlying30 rfl (by kernel_rfl)) rfl ?_
  refine ⟨_, _, rfl, n32_row _ (w.heap.size + 1) ?_ (Nat.le_succ _), below_setRow2 HB.out (Nat.le_refl _) _⟩
  rw [setRow_other _ _ _ _ (by omega), HZ.out]
  exact HH.out
end Go.Proofs.Ytdipccjgpkedhaa
