/- Flash, ours and the reference's: New of whatever wear. -/
import Derived.Test.YtmlmpjokmbgmcaaRFl3
namespace Go.Proofs.Ytmlmpjokmbgmcaa
open Go.RowKit
set_option maxRecDepth 100000 in
set_option maxHeartbeats 800000 in
theorem new_lo (x : Int) (w : World) (h : x < 1) : Calls Try.prog 14 #[.int .i64 x] w (NewOk 1 w) := by
  obtain ⟨C, hC⟩ : ∃ C, flCells 0 = C := ⟨_, rfl⟩
  have hb : ∀ w' : World, (zeroValue 86).run Try.prog w' = .ok (.agg C) w' := fun w' => by rw [← hC]; exact fl_zero w'
  have hat := Lib.hid (flCells_at 1 C hC w)
  have hs : ¬ C.size < 3599 := by rw [← hC, flCells_size]; omega
  clear hC
  go_enter Try.func14, Try.ntmps14
  go_wp2_with fail
  refine (fill_any w.heap.size 0 3584 3584 (flNew 1) _ hat.out (by omega)).mono ?_
  rintro e w' ⟨rfl, hd⟩
  have HD : Hid (FlAt w' w.heap.size ((flNew 1).fill 0 3584) ∧ Below w.heap.size w w') := ⟨hd.out.1, ((Below.refl _ _).alloc (Nat.le_refl _) _).grown hd.out.2 (by simp) (by intro g h; injection h with h; omega)⟩
  clear hd hat
  go_wp2_with fail
  go_ret
  exact ⟨_, rfl, Nat.le_refl _, HD.out.1, HD.out.2⟩
set_option maxRecDepth 100000 in
set_option maxHeartbeats 800000 in
theorem new_hi (x : Int) (w : World) (h : 10000 < x) : Calls Try.prog 14 #[.int .i64 x] w (NewOk 10000 w) := by
  obtain ⟨C, hC⟩ : ∃ C, flCells 0 = C := ⟨_, rfl⟩
  have hb : ∀ w' : World, (zeroValue 86).run Try.prog w' = .ok (.agg C) w' := fun w' => by rw [← hC]; exact fl_zero w'
  have hat := Lib.hid (flCells_at 10000 C hC w)
  have hs : ¬ C.size < 3599 := by rw [← hC, flCells_size]; omega
  have h1 : 1 ≤ x := by omega
  clear hC
  go_enter Try.func14, Try.ntmps14
  go_wp2_with fail
  refine (fill_any w.heap.size 0 3584 3584 (flNew 10000) _ hat.out (by omega)).mono ?_
  rintro e w' ⟨rfl, hd⟩
  have HD : Hid (FlAt w' w.heap.size ((flNew 10000).fill 0 3584) ∧ Below w.heap.size w w') := ⟨hd.out.1, ((Below.refl _ _).alloc (Nat.le_refl _) _).grown hd.out.2 (by simp) (by intro g h; injection h with h; omega)⟩
  clear hd hat
  go_wp2_with fail
  go_ret
  exact ⟨_, rfl, Nat.le_refl _, HD.out.1, HD.out.2⟩
theorem new_all (x : Int) (w : World) : ∃ v : Int, v ≤ 10000 ∧ v = max 1 (min x 10000) ∧ Calls Try.prog 14 #[.int .i64 x] w (NewOk v w) := by
  by_cases h1 : x < 1
  · exact ⟨1, by omega, by omega, new_lo x w h1⟩
  · by_cases h2 : 10000 < x
    · exact ⟨10000, by omega, by omega, new_hi x w h2⟩
    · exact ⟨x, by omega, by omega, new_any x w ⟨by omega, by omega⟩⟩
theorem zr_make3584 (w : World) : (Instr.makeSlice 27 (.int .i64 3584) (.int .i64 3584)).run Try.prog w = .ok (.slice (some ⟨w.heap.size, 0, none⟩) 3584 3584) (w.alloc (.cells (Array.replicate 3584 (.int .u8 0)) 5)) := by
  obtain ⟨i0, hi, hz0, hz1, hz2⟩ := info_parts Try.info5
  have e : ∀ (v : Value) (n : Nat), madeCells #[v] n = Array.replicate n v := fun v n => by
    apply Array.toList_inj.1
    rw [toList_madeCells_one]; simp
  have := run_make (P := Try.prog) w 27 5 i0 (.int .u8 0) Try.underlying27 hi hz0 .i64 .i64 3584 3584 (by omega) (Int.le_refl _) (by rw [hz2]; omega) (by omega)
  simpa [hz1, Value.cells, e] using this
def headZ (gB : Nat) (v : Int) : Array Value := #[.slice (some ⟨gB, 0, none⟩) 3584 3584, .int .i64 v, .int .i64 0, .int .i64 0, .int .i64 0, .int .i64 0, .int .i64 0, .int .i64 0, .int .i64 0, .int .i64 0, .int .i64 0, .int .i64 0, .int .i64 0, .int .i64 0, .int .i64 0, .int .i64 0, .bool false, .int .i64 0, .bool false, .int .i64 0, .int .i64 0]
theorem headZ_get (gB : Nat) (v : Int) : ∀ i, i < 21 → (headZ gB v)[i]? = some (rcell gB (flNew v) false 0 i) := by
  intro i hi
  have : i = 0 ∨ i = 1 ∨ i = 2 ∨ i = 3 ∨ i = 4 ∨ i = 5 ∨ i = 6 ∨ i = 7 ∨ i = 8 ∨ i = 9 ∨ i = 10 ∨ i = 11 ∨ i = 12 ∨ i = 13 ∨ i = 14 ∨ i = 15 ∨ i = 16 ∨ i = 17 ∨ i = 18 ∨ i = 19 ∨ i = 20 := by omega
  rcases this with rfl | rfl | rfl | rfl | rfl | rfl | rfl | rfl | rfl | rfl | rfl | rfl | rfl | rfl | rfl | rfl | rfl | rfl | rfl | rfl | rfl <;> rfl
theorem rf_new (w : World) (v : Int) : RfAt ((w.alloc (.cells (Array.replicate 3584 (.int .u8 0)) 5)).alloc (.cells (headZ w.heap.size v) 43)) (w.heap.size + 1) w.heap.size (flNew v) := by
  refine ⟨by omega, ⟨_, heap_alloc2_old _ _ _, by simp, fun i hi => ?_⟩, false, 0, ⟨fun h => Bool.noConfusion h, fun _ => .inl rfl, by decide, by decide⟩, ⟨_, heap_alloc2_new _ _ _, rfl, headZ_get _ _⟩⟩
  rw [Array.getElem?_replicate, if_pos hi]; rfl
def RNewOk (v : Int) (w : World) (e : Ending) (w' : World) : Prop :=
  ∃ gm gB, e = .returned (.pointer (some ⟨gm, 0, none⟩)) ∧ w.heap.size ≤ gm ∧ w.heap.size ≤ gB ∧ Hid (RfAt w' gm gB ((flNew v).fill 0 3584)) ∧ Hid (Below w.heap.size w w')
set_option maxRecDepth 100000 in
set_option maxHeartbeats 1600000 in
theorem rnew_mid (x : Int) (w : World) (h : 1 ≤ x ∧ x ≤ 10000) : Calls Try.prog 15 #[.int .i64 x] w (RNewOk x w) := by
  have h1 := h.1
  have h2 := h.2
  have HM := fun w => zr_make3584 w
  have hb0 : Below w.heap.size w ((w.alloc (.cells (Array.replicate 3584 (.int .u8 0)) 5)).alloc (.cells (headZ w.heap.size x) 43)) := ((Below.refl _ _).alloc (Nat.le_refl _) _).alloc (by simp) _
  have hf0 := rf_new w x
  unfold headZ at hb0 hf0
  obtain ⟨w2, hw2⟩ : ∃ w2, w2 = (w.alloc (.cells (Array.replicate 3584 (.int .u8 0)) 5)).alloc (.cells #[.slice (some ⟨w.heap.size, 0, none⟩) 3584 3584, .int .i64 x, .int .i64 0, .int .i64 0, .int .i64 0, .int .i64 0, .int .i64 0, .int .i64 0, .int .i64 0, .int .i64 0, .int .i64 0, .int .i64 0, .int .i64 0, .int .i64 0, .int .i64 0, .int .i64 0, .bool false, .int .i64 0, .bool false, .int .i64 0, .int .i64 0] 43) := ⟨_, rfl⟩
  rw [← hw2] at hb0 hf0
  have HB0 := Lib.hid hb0
  have HF0 := Lib.hid hf0
  have HW2 := Lib.hid hw2
  have hc0 := hf0.slot0
  clear hb0 hf0 hw2 h
  go_enter Try.func15, Try.ntmps15
  go_upto_region 2 with fail
  rw [show (if 1 < x then x else 1) = x by split <;> omega]
  rw [← HW2.out]
  clear HM HW2
  obtain ⟨gB, hgB⟩ : ∃ gB, gB = w.heap.size := ⟨_, rfl⟩
  rw [← hgB] at HF0 hc0
  try rw [← hgB]
  have HGB := Lib.hid hgB
  clear hgB
  go_wp2_with fail
  go_loopw [16] (fun i wr => ∃ k : Nat, k ≤ 3584 ∧ i = .int .i64 k ∧ Hid (RDone (gB + 1) gB ((flNew x).fill 0 k) w2 wr)) (fun i _ => 3584 - (intOf i).toNat)
  case atStart => exact ⟨0, by omega, rfl, by rw [fill_zero]; exact ⟨HF0.out, Gr2.refl _ _ _⟩⟩
  case round =>
    clear hc0
    obtain ⟨k, hk, rfl, hdn⟩ := hrel
    by_cases hlt : k < 3584
    · have hc0 := hdn.out.1.slot0
      have hcb := hdn.out.1.2.1.at_ (i := k) hlt
      have hfb := hdn.out.1.2.1.frozen k
      have hki : (k : Int) < 3584 := by omega
      have HN : Hid (RDone (gB + 1) gB ((flNew x).fill 0 (k + 1)) w2 (wr.setCell ⟨gB, k, none⟩ (.int .u8 255))) := by
        have := RfAt.ff (gm := gB + 1) (gB := gB) (f := flNew x) 0 k (by omega) _ rfl hdn.out.1
        rw [Nat.zero_add] at this
        exact hdn.out.trans this
      clear hdn
      go_wp2_with fail
      go_roundw
      case rel => exact ⟨k + 1, by omega, by go_num, HN⟩
      case measure => simp [intOf]; omega
    · obtain rfl : k = 3584 := by omega
      have hgb := HGB.out
      go_wp2_with fail
      go_ret
      exact ⟨gB + 1, gB, rfl, by omega, by omega, hdn.out.1, below_gr2 HB0.out hdn.out.2 HB0.out.size (by omega) (by omega)⟩
set_option maxRecDepth 100000 in
set_option maxHeartbeats 1600000 in
theorem rnew_lo (x : Int) (w : World) (h : x < 1) : Calls Try.prog 15 #[.int .i64 x] w (RNewOk 1 w) := by
  have h1 := h
  have HM := fun w => zr_make3584 w
  have hb0 : Below w.heap.size w ((w.alloc (.cells (Array.replicate 3584 (.int .u8 0)) 5)).alloc (.cells (headZ w.heap.size 1) 43)) := ((Below.refl _ _).alloc (Nat.le_refl _) _).alloc (by simp) _
  have hf0 := rf_new w 1
  unfold headZ at hb0 hf0
  obtain ⟨w2, hw2⟩ : ∃ w2, w2 = (w.alloc (.cells (Array.replicate 3584 (.int .u8 0)) 5)).alloc (.cells #[.slice (some ⟨w.heap.size, 0, none⟩) 3584 3584, .int .i64 1, .int .i64 0, .int .i64 0, .int .i64 0, .int .i64 0, .int .i64 0, .int .i64 0, .int .i64 0, .int .i64 0, .int .i64 0, .int .i64 0, .int .i64 0, .int .i64 0, .int .i64 0, .int .i64 0, .bool false, .int .i64 0, .bool false, .int .i64 0, .int .i64 0] 43) := ⟨_, rfl⟩
  rw [← hw2] at hb0 hf0
  have HB0 := Lib.hid hb0
  have HF0 := Lib.hid hf0
  have HW2 := Lib.hid hw2
  have hc0 := hf0.slot0
  clear hb0 hf0 hw2 h
  go_enter Try.func15, Try.ntmps15
  go_upto_region 2 with fail
  rw [← HW2.out]
  clear HM HW2
  obtain ⟨gB, hgB⟩ : ∃ gB, gB = w.heap.size := ⟨_, rfl⟩
  rw [← hgB] at HF0 hc0
  try rw [← hgB]
  have HGB := Lib.hid hgB
  clear hgB
  go_wp2_with fail
  go_loopw [16] (fun i wr => ∃ k : Nat, k ≤ 3584 ∧ i = .int .i64 k ∧ Hid (RDone (gB + 1) gB ((flNew 1).fill 0 k) w2 wr)) (fun i _ => 3584 - (intOf i).toNat)
  case atStart => exact ⟨0, by omega, rfl, by rw [fill_zero]; exact ⟨HF0.out, Gr2.refl _ _ _⟩⟩
  case round =>
    clear hc0
    obtain ⟨k, hk, rfl, hdn⟩ := hrel
    by_cases hlt : k < 3584
    · have hc0 := hdn.out.1.slot0
      have hcb := hdn.out.1.2.1.at_ (i := k) hlt
      have hfb := hdn.out.1.2.1.frozen k
      have hki : (k : Int) < 3584 := by omega
      have HN : Hid (RDone (gB + 1) gB ((flNew 1).fill 0 (k + 1)) w2 (wr.setCell ⟨gB, k, none⟩ (.int .u8 255))) := by
        have := RfAt.ff (gm := gB + 1) (gB := gB) (f := flNew 1) 0 k (by omega) _ rfl hdn.out.1
        rw [Nat.zero_add] at this
        exact hdn.out.trans this
      clear hdn
      go_wp2_with fail
      go_roundw
      case rel => exact ⟨k + 1, by omega, by go_num, HN⟩
      case measure => simp [intOf]; omega
    · obtain rfl : k = 3584 := by omega
      have hgb := HGB.out
      go_wp2_with fail
      go_ret
      exact ⟨gB + 1, gB, rfl, by omega, by omega, hdn.out.1, below_gr2 HB0.out hdn.out.2 HB0.out.size (by omega) (by omega)⟩
set_option maxRecDepth 100000 in
set_option maxHeartbeats 1600000 in
theorem rnew_hi (x : Int) (w : World) (h : 10000 < x) : Calls Try.prog 15 #[.int .i64 x] w (RNewOk 10000 w) := by
  have h1 := h
  have HM := fun w => zr_make3584 w
  have hb0 : Below w.heap.size w ((w.alloc (.cells (Array.replicate 3584 (.int .u8 0)) 5)).alloc (.cells (headZ w.heap.size 10000) 43)) := ((Below.refl _ _).alloc (Nat.le_refl _) _).alloc (by simp) _
  have hf0 := rf_new w 10000
  unfold headZ at hb0 hf0
  obtain ⟨w2, hw2⟩ : ∃ w2, w2 = (w.alloc (.cells (Array.replicate 3584 (.int .u8 0)) 5)).alloc (.cells #[.slice (some ⟨w.heap.size, 0, none⟩) 3584 3584, .int .i64 10000, .int .i64 0, .int .i64 0, .int .i64 0, .int .i64 0, .int .i64 0, .int .i64 0, .int .i64 0, .int .i64 0, .int .i64 0, .int .i64 0, .int .i64 0, .int .i64 0, .int .i64 0, .int .i64 0, .bool false, .int .i64 0, .bool false, .int .i64 0, .int .i64 0] 43) := ⟨_, rfl⟩
  rw [← hw2] at hb0 hf0
  have HB0 := Lib.hid hb0
  have HF0 := Lib.hid hf0
  have HW2 := Lib.hid hw2
  have hc0 := hf0.slot0
  clear hb0 hf0 hw2 h
  go_enter Try.func15, Try.ntmps15
  go_upto_region 2 with fail
  rw [← HW2.out]
  clear HM HW2
  obtain ⟨gB, hgB⟩ : ∃ gB, gB = w.heap.size := ⟨_, rfl⟩
  rw [← hgB] at HF0 hc0
  try rw [← hgB]
  have HGB := Lib.hid hgB
  clear hgB
  go_wp2_with fail
  go_loopw [16] (fun i wr => ∃ k : Nat, k ≤ 3584 ∧ i = .int .i64 k ∧ Hid (RDone (gB + 1) gB ((flNew 10000).fill 0 k) w2 wr)) (fun i _ => 3584 - (intOf i).toNat)
  case atStart => exact ⟨0, by omega, rfl, by rw [fill_zero]; exact ⟨HF0.out, Gr2.refl _ _ _⟩⟩
  case round =>
    clear hc0
    obtain ⟨k, hk, rfl, hdn⟩ := hrel
    by_cases hlt : k < 3584
    · have hc0 := hdn.out.1.slot0
      have hcb := hdn.out.1.2.1.at_ (i := k) hlt
      have hfb := hdn.out.1.2.1.frozen k
      have hki : (k : Int) < 3584 := by omega
      have HN : Hid (RDone (gB + 1) gB ((flNew 10000).fill 0 (k + 1)) w2 (wr.setCell ⟨gB, k, none⟩ (.int .u8 255))) := by
        have := RfAt.ff (gm := gB + 1) (gB := gB) (f := flNew 10000) 0 k (by omega) _ rfl hdn.out.1
        rw [Nat.zero_add] at this
        exact hdn.out.trans this
      clear hdn
      go_wp2_with fail
      go_roundw
      case rel => exact ⟨k + 1, by omega, by go_num, HN⟩
      case measure => simp [intOf]; omega
    · obtain rfl : k = 3584 := by omega
      have hgb := HGB.out
      go_wp2_with fail
      go_ret
      exact ⟨gB + 1, gB, rfl, by omega, by omega, hdn.out.1, below_gr2 HB0.out hdn.out.2 HB0.out.size (by omega) (by omega)⟩
theorem rnew_all (x : Int) (w : World) (v : Int) (hv : v = max 1 (min x 10000)) : Calls Try.prog 15 #[.int .i64 x] w (RNewOk v w) := by
  by_cases h1 : x < 1
  · obtain rfl : v = 1 := by omega
    exact rnew_lo x w h1
  · by_cases h2 : 10000 < x
    · obtain rfl : v = 10000 := by omega
      exact rnew_hi x w h2
    · obtain rfl : x = v := by omega
      exact rnew_mid x w ⟨by omega, by omega⟩
end Go.Proofs.Ytmlmpjokmbgmcaa
