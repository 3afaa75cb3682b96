/- law 14's awake: by contract. -/
import Derived.Test.YtcgcmfhidolohaaDoorManPa2Q
namespace Go.Proofs.YtcgcmfhidolohaaDoor
open Go.RowKit
open Sh
theorem may_32' {M : LMan} (h : M.may = true) : M.h.length = 32 := by
  obtain ⟨_, _, _, _, _, _, _, _, _, _, _, h32⟩ := man_bounds h
  exact h32
theorem zr_make32 (w : World) : (Instr.makeSlice 23 (.int .i64 32) (.int .i64 32)).run Tryd.prog w = .ok (.slice (some ⟨w.heap.size, 0, none⟩) 32 32) (w.alloc (.cells (Array.replicate 32 (.int .u8 0)) 5)) := by
  obtain ⟨i0, hi, hz0, hz1, hz2⟩ := info_parts Tryd.info5
  have e : ∀ (v : Value) (n : Nat), madeCells #[v] n = Array.replicate n v := fun v n => by
    apply Array.toList_inj.1
    rw [toList_madeCells_one]; simp
  have := run_make (P := Tryd.prog) w 23 5 i0 (.int .u8 0) Tryd.underlying23 hi hz0 .i64 .i64 32 32 (by omega) (Int.le_refl _) (by rw [hz2]; omega) (by omega)
  simpa [hz1, Value.cells, e] using this
theorem par_split {M : LMan} (t : List UInt8) (hm : M.may = true) : (M.bytes ++ t).take 44 = M.bytes ∧ (M.bytes ++ t).drop 44 = t := by
  have h : M.bytes.length = 44 := by rw [bytes_len, may_32' hm]
  rw [← h]
  exact ⟨List.take_left, List.drop_left⟩
theorem par_bytes (key : List UInt8) {M : LMan} (hm : M.may = true) (hw : M.w32) : parE key (M.bytes ++ tagOf key M.bytes) = 0 ∧ parM key (M.bytes ++ tagOf key M.bytes) = M := by
  have h : M.bytes.length = 44 := by rw [bytes_len, may_32' hm]
  have hl : (M.bytes ++ tagOf key M.bytes).length = 76 := by rw [List.length_append, h, tagOf_length]
  obtain ⟨e1, e2⟩ := par_split (tagOf key M.bytes) hm
  have r := readM_bytes (M := M) ⟨hm, hw.1, hw.2⟩
  unfold parE parM
  rw [e1, e2, if_pos hl, if_pos rfl, if_pos ⟨hl, rfl⟩]
  exact ⟨r.2, r.1⟩
theorem par_other {key key' : List UInt8} {M : LMan} (hm : M.may = true) (hk : tagOf key' M.bytes ≠ tagOf key M.bytes) : parE key' (M.bytes ++ tagOf key M.bytes) = 5 := by
  have h : M.bytes.length = 44 := by rw [bytes_len, may_32' hm]
  have hl : (M.bytes ++ tagOf key M.bytes).length = 76 := by rw [List.length_append, h, tagOf_length]
  obtain ⟨e1, e2⟩ := par_split (tagOf key M.bytes) hm
  unfold parE
  rw [if_pos hl, if_neg (by rw [e1, e2]; exact hk)]
def goodM : LMan := ⟨1, 2, 3, 2, 1, List.replicate 32 0⟩
theorem good_may : goodM.may = true := by decide +kernel
theorem good_w : goodM.w32 := by unfold LMan.w32; decide +kernel
theorem good_tags : tagOf [108] goodM.bytes ≠ tagOf [107] goodM.bytes := by decide +kernel
set_option maxRecDepth 100000 in
set_option maxHeartbeats 800000 in
theorem goodM_any (w : World) : Calls Tryd.prog 19 #[] w fun e w' => ∃ cs, e = .returned (.agg cs) ∧ Hid (IsMan w' (fun b => w.heap.size ≤ b) cs goodM) ∧ Hid (Below w.heap.size w w') := by
  obtain ⟨Z, hZ⟩ : ∃ Z, Array.replicate 32 (Value.int .u8 0) = Z := ⟨_, rfl⟩
  have hm : ∀ W, (Instr.makeSlice 23 (.int .i64 32) (.int .i64 32)).run Tryd.prog W = .ok (.slice (some ⟨W.heap.size, 0, none⟩) 32 32) (W.alloc (.cells Z 5)) := by
    intro W; rw [← hZ]; exact zr_make32 W
  have HZ := Lib.hid hZ
  have HG := Lib.hid (heap_alloc2_old w (.cells #[.int .u32 0, .int .u32 0, .int .i64 0, .int .i64 0, .int .i64 0, .slice none 0 0] 25) (.cells Z 5))
  have HH := Lib.hid (heap_alloc2_new w (.cells #[.int .u32 0, .int .u32 0, .int .i64 0, .int .i64 0, .int .i64 0, .slice none 0 0] 25) (.cells Z 5))
  have HB : Hid (Below w.heap.size w ((w.alloc (.cells #[.int .u32 0, .int .u32 0, .int .i64 0, .int .i64 0, .int .i64 0, .slice none 0 0] 25)).alloc (.cells Z 5))) := Lib.hid (((Below.refl _ _).alloc (Nat.le_refl _) _).alloc (by simp) _)
  clear hZ
  go_enter Tryd.func19, Tryd.ntmps19
  go_wp2_with ((with_reducible show wpList _ _ _ _ _ _); refine wpList_store_row rfl _ (.tmp 0) (.tmp 2) rfl (w.heap.size) #[.int .u32 1, .int .u32 2, .int .i64 3, .int .i64 2, .int .i64 1, .slice (some ⟨w.heap.size + 1, 0, none⟩) 32 32] rfl (by simp [Act.eval]) _ _ HG.out (by kernel_rfl) (by rfl) (by simp [Value.oneCell']) ?_)
  generalize ((w.alloc (.cells #[.int .u32 0, .int .u32 0, .int .i64 0, .int .i64 0, .int .i64 0, .slice none 0 0] 25)).alloc (.cells Z 5)) = w1 at *
  have hrow : (w1.setRow w.heap.size #[.int .u32 1, .int .u32 2, .int .i64 3, .int .i64 2, .int .i64 1, .slice (some ⟨w.heap.size + 1, 0, none⟩) 32 32]).heap[w.heap.size]? = some (.cells #[.int .u32 1, .int .u32 2, .int .i64 3, .int .i64 2, .int .i64 1, .slice (some ⟨w.heap.size + 1, 0, none⟩) 32 32] 25 (0, 0)) := setRow_heap _ _ _ _ _ _ HG.out
  refine bodyPost_ret (results_cell_row rfl _ _ (w.heap.size) _ _ (0, 0) _ rfl hrow Tryd.underlying25 rfl (by kernel_rfl)) rfl ?_
  refine ⟨_, rfl, Lib.hid ⟨some ⟨w.heap.size + 1, 0, none⟩, 32, rfl, by simp [goodM, bv], fun _ => ⟨w.heap.size + 1, 0, rfl, ?_, Nat.le_succ _, fun j v hv => ?_⟩⟩, Lib.hid (below_setRow2 HB.out (Nat.le_refl _) _)⟩
  · have := (Array.getElem?_eq_some_iff.1 HH.out).1; simpa using this
  · rw [cell_of_row _ (w.heap.size + 1) (0 + j) _ _ (0, 0) ((setRow_other w1 w.heap.size (w.heap.size + 1) _ (by omega)).trans HH.out), Nat.zero_add, ← HZ.out]
    have e : bv goodM.h = List.replicate 32 (Value.int .u8 0) := by simp [goodM, bv]
    rw [e, List.getElem?_replicate] at hv
    rw [Array.getElem?_replicate]
    exact hv
theorem man_c1 {w : World} {P : Nat → Prop} {cs : Array Value} {M : LMan} (h : IsMan w P cs M) : cs[1]? = some (.int .u32 (M.v : Int)) := by obtain ⟨A, c, rfl, _⟩ := h; rfl
set_option maxRecDepth 100000 in
set_option maxHeartbeats 1600000 in
theorem awake14_any (w : World) (ht : Tab w) : Calls Tryd.prog 4 #[] w fun e w' => e = .returned (.bool true) ∧ Below w.heap.size w w' := by
  have HT := Lib.hid ht
  have ba : Below w.heap.size w (w.alloc (.cells #[.int .u8 107] 5 (1, 2))) := (Below.refl _ _).alloc (Nat.le_refl _) _
  have RK := Lib.hid ((row_new w #[.int .u8 107] 5 (1, 2)).more (by simp : w.heap.size + 1 ≤ (w.alloc (.cells #[.int .u8 107] 5 (1, 2))).heap.size))
  have BA := Lib.hid ba
  clear ht ba
  have kc := fun (w : World) (C : Array Value) (n c : Nat) => Lib.run_convert_bytes_const (P := Tryd.prog) w 23 5 C n c Tryd.underlying23 Tryd.underlying5
  have kc2 := fun (w : World) (o : Obj) (C : Array Value) (n c : Nat) => Lib.run_convert_bytes_const (P := Tryd.prog) (w.alloc o) 23 5 C n c Tryd.underlying23 Tryd.underlying5
  simp only [World.size_alloc] at kc2
  go_enter Tryd.func4, Tryd.ntmps4
  go_wp2_with fail
  generalize w.alloc (.cells #[.int .u8 107] 5 (1, 2)) = w0 at *
  refine (goodM_any w0).mono ?_
  rintro e w1 ⟨c1, rfl, M1, hb1⟩
  have B1 := Lib.hid (BA.out.trans (hb1.out.mono BA.out.size))
  have RK1 : Hid (Row w1 w1.heap.size (some ⟨w.heap.size, 0, none⟩) 1 (bv [107])) := Lib.hid ((RK.out.below hb1.out).more hb1.out.size)
  clear hb1 RK BA
  go_wp2_with fail
  refine (manBytes_yes (some ⟨w.heap.size, 0, none⟩) 1 1 [107] (HT.out.below B1.out HT.out.1) RK1.out (by omega) M1.out good_may good_w).mono ?_
  rintro e w2 ⟨A2, c2, rfl, O2, hb2⟩
  have bb : Below w2.heap.size w2 (w2.alloc (.cells #[.int .u8 107] 5 (1, 2))) := (Below.refl _ _).alloc (Nat.le_refl _) _
  have B3 := Lib.hid ((B1.out.trans (hb2.out.mono B1.out.size)).trans (bb.mono (Nat.le_trans B1.out.size hb2.out.size)))
  have R3 := Lib.hid (((Row.of_own O2.out).below bb).more bb.size)
  have C2 := Lib.hid (own_cap O2.out)
  have RK3 : Hid (Row (w2.alloc (.cells #[.int .u8 107] 5 (1, 2))) (w2.alloc (.cells #[.int .u8 107] 5 (1, 2))).heap.size (some ⟨w2.heap.size, 0, none⟩) 1 (bv [107])) := Lib.hid ((row_new w2 #[.int .u8 107] 5 (1, 2)).more (by simp))
  clear hb2 bb O2 M1 RK1 B1
  go_wp2_with fail
  generalize w2.alloc (.cells #[.int .u8 107] 5 (1, 2)) = w3 at *
  refine (manPar_any 1 1 (some ⟨w2.heap.size, 0, none⟩) [107] A2 76 c2 _ w3 (HT.out.below B3.out HT.out.1) RK3.out (by omega) R3.out C2.out.1 C2.out.2).mono ?_
  rintro e w4 ⟨c4, rfl, M4, hb4⟩
  rw [(par_bytes [107] good_may good_w).1]
  have m4 : IsMan w4 (fun b => w3.heap.size ≤ b) c4 goodM := by have := M4.out; rwa [(par_bytes [107] good_may good_w).2] at this
  have I4 := Lib.hid m4.inf
  have O4 := Lib.hid m4.one
  have Z4 : Hid (6 = c4.size) := Lib.hid m4.size.symm
  have K4 : Hid (c4[1]? = some (.int .u32 2)) := Lib.hid (man_c1 m4)
  have b5 : Below w4.heap.size w4 ((w4.alloc (.cells c4 25)).alloc (.cells #[.int .u8 108] 5 (1, 2))) := ((Below.refl _ _).alloc (Nat.le_refl _) _).alloc (by simp) _
  have X5 := Lib.hid (heap_alloc2_old w4 (.cells c4 25) (.cells #[.int .u8 108] 5 (1, 2)))
  have B5 := Lib.hid ((B3.out.trans (hb4.out.mono B3.out.size)).trans (b5.mono (Nat.le_trans B3.out.size hb4.out.size)))
  have R5 := Lib.hid (((R3.out.below (hb4.out.trans (b5.mono hb4.out.size)))).more (hb4.out.trans (b5.mono hb4.out.size)).size)
  have RK5 : Hid (Row ((w4.alloc (.cells c4 25)).alloc (.cells #[.int .u8 108] 5 (1, 2))) ((w4.alloc (.cells c4 25)).alloc (.cells #[.int .u8 108] 5 (1, 2))).heap.size (some ⟨w4.heap.size + 1, 0, none⟩) 1 (bv [108])) := Lib.hid (by
    have h := row_new (w4.alloc (.cells c4 25)) #[.int .u8 108] 5 (1, 2)
    rw [show (w4.alloc (.cells c4 25)).heap.size = w4.heap.size + 1 by simp] at h
    exact h.more (by simp))
  clear M4 m4 hb4 b5 B3 R3 RK3
  go_wp2_with ((with_reducible show wpList _ _ _ _ _ _); refine wpList_store_new rfl rfl _ (.tmp 3) (.tmp 19) rfl _ _ c4 _ rfl rfl I4.out Z4.out O4.out ?_)
  generalize ((w4.alloc (.cells c4 25)).alloc (.cells #[.int .u8 108] 5 (1, 2))) = w5 at *
  refine (manPar_any 1 1 (some ⟨w4.heap.size + 1, 0, none⟩) [108] A2 76 c2 _ w5 (HT.out.below B5.out HT.out.1) RK5.out (by omega) R5.out C2.out.1 C2.out.2).mono ?_
  rintro e w6 ⟨c6, rfl, M6, hb6⟩
  rw [par_other good_may good_tags]
  have I6 := Lib.hid M6.out.inf
  have O6 := Lib.hid M6.out.one
  have Z6 : Hid (6 = c6.size) := Lib.hid M6.out.size.symm
  have b7 : Below w6.heap.size w6 (w6.alloc (.cells c6 25)) := (Below.refl _ _).alloc (Nat.le_refl _) _
  have x7 := (b7.block _ (Array.getElem?_eq_some_iff.1 ((hb6.out.block _ (Array.getElem?_eq_some_iff.1 X5.out).1).trans X5.out)).1).trans ((hb6.out.block _ (Array.getElem?_eq_some_iff.1 X5.out).1).trans X5.out)
  have k7 := (cell_of_row _ w4.heap.size 1 _ _ (0, 0) x7).trans K4.out
  have B7 := Lib.hid ((B5.out.trans (hb6.out.mono B5.out.size)).trans (b7.mono (Nat.le_trans B5.out.size hb6.out.size)))
  clear M6 hb6 b7 x7 B5 R5 RK5 X5
  go_wp2_with ((with_reducible show wpList _ _ _ _ _ _); refine wpList_store_new rfl rfl _ (.tmp 5) (.tmp 26) rfl _ _ c6 _ rfl rfl I6.out Z6.out O6.out ?_)
  go_ret
  exact ⟨rfl, B7.out⟩
end Go.Proofs.YtcgcmfhidolohaaDoor
