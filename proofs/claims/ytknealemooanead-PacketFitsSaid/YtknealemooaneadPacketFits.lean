/- PacketFits: a symbol fits its session by number and length, and no other one. For every input, no condition. -/
import Derived.Test.YtknealemooaneadFits
import Derived.Test.YtknealemooaneadLawPar
import Derived.Deep.RegionHeld3
import Derived.Deep.DeepCutAuto
import Derived.Deep.OwnRows
namespace Go.Proofs.Ytknealemooanead
open Go.ChangeShapes Go.WideShapes Go.ChangeAt Go.RowKit
theorem wp_gen {P : Program} {c : Code} {Q : Exit → Act → World → Prop} {a : Act} {w : World} (F : World → Prop) (hF : F w) (h : ∀ wz, F wz → Code.wp P c Q a wz) : Code.wp P c Q a w := h w hF
theorem heap_new' (w : World) (o : Obj) (g : Nat) (h : g = w.heap.size) : (w.alloc o).heap[g]? = some o := by subst h; exact heap_alloc_new w o
theorem fits_val (s i n c s' : Nat) (A : Option Addr) (K P Z : Int) (x : Int) (w : World) (h : fitsC s s' n K P Z = x) :
    Calls Try.prog 21 #[.agg #[.int .u32 (s : Int), .int .u32 (i : Int), .slice A n c], .agg #[.int .u32 (s' : Int), .int .i64 K, .int .i64 P, .int .i64 Z]] w (fun e w' => e = .returned (.int .i64 x) ∧ Below w.heap.size w w') := by
  refine (fits_any s i n c s' A K P Z w).mono ?_
  rintro e w' ⟨y, rfl, hy, hb⟩
  exact ⟨by rw [hy.out, h], hb⟩
abbrev SFits (wz w : World) (s i m q u o : Nat) (W : World) : Prop :=
  Below wz.heap.size wz W ∧
  W.cell? ⟨w.heap.size, 0, none⟩ = some (.int .u32 (s : Int)) ∧ W.cell? ⟨w.heap.size, 1, none⟩ = some (.int .u32 (i : Int)) ∧ W.cell? ⟨w.heap.size, 2, none⟩ = some (.slice (some ⟨w.heap.size + 1 + 1, 0, none⟩) u u) ∧
  (W.cell? ⟨w.heap.size + 1, 0, none⟩ = some (.int .u32 (s : Int)) ∧ W.cell? ⟨w.heap.size + 1, 1, none⟩ = some (.int .i64 (m : Int)) ∧ W.cell? ⟨w.heap.size + 1, 2, none⟩ = some (.int .i64 (q : Int)) ∧ W.cell? ⟨w.heap.size + 1, 3, none⟩ = some (.int .i64 (u : Int))) ∧
  (W.cell? ⟨w.heap.size + 1 + 1 + 1, 0, none⟩ = some (.int .u32 (s : Int)) ∧ W.cell? ⟨w.heap.size + 1 + 1 + 1, 1, none⟩ = some (.int .u32 (i : Int)) ∧ W.cell? ⟨w.heap.size + 1 + 1 + 1, 2, none⟩ = some (.slice (some ⟨w.heap.size + 1 + 1 + 1 + 1, 0, none⟩) (u + 1) (u + 1))) ∧
  (W.cell? ⟨w.heap.size + 1 + 1 + 1 + 1 + 1, 0, none⟩ = some (.int .u32 (o : Int)) ∧ W.cell? ⟨w.heap.size + 1 + 1 + 1 + 1 + 1, 1, none⟩ = some (.int .i64 (m : Int)) ∧ W.cell? ⟨w.heap.size + 1 + 1 + 1 + 1 + 1, 2, none⟩ = some (.int .i64 (q : Int)) ∧ W.cell? ⟨w.heap.size + 1 + 1 + 1 + 1 + 1, 3, none⟩ = some (.int .i64 (u : Int))) ∧
  (W.cell? ⟨w.heap.size + 1 + 1 + 1 + 1 + 1 + 1, 0, none⟩ = some (.int .u32 (s : Int)) ∧ W.cell? ⟨w.heap.size + 1 + 1 + 1 + 1 + 1 + 1, 1, none⟩ = some (.int .i64 0) ∧ W.cell? ⟨w.heap.size + 1 + 1 + 1 + 1 + 1 + 1, 2, none⟩ = some (.int .i64 (q : Int)) ∧ W.cell? ⟨w.heap.size + 1 + 1 + 1 + 1 + 1 + 1, 3, none⟩ = some (.int .i64 (u : Int)))
theorem fits_keep {wz w : World} {s i m q u o : Nat} {t1 t2 t3 t4 t5 : TypeId} (hsz : wz.heap.size = w.heap.size + 7)
    (r1 : wz.heap[w.heap.size]? = some (.cells #[.int .u32 (s : Int), .int .u32 (i : Int), .slice (some ⟨w.heap.size + 1 + 1, 0, none⟩) u u] t1))
    (r2 : wz.heap[w.heap.size + 1]? = some (.cells #[.int .u32 (s : Int), .int .i64 (m : Int), .int .i64 (q : Int), .int .i64 (u : Int)] t2))
    (r3 : wz.heap[w.heap.size + 1 + 1 + 1]? = some (.cells #[.int .u32 (s : Int), .int .u32 (i : Int), .slice (some ⟨w.heap.size + 1 + 1 + 1 + 1, 0, none⟩) (u + 1) (u + 1)] t3))
    (r4 : wz.heap[w.heap.size + 1 + 1 + 1 + 1 + 1]? = some (.cells #[.int .u32 (o : Int), .int .i64 (m : Int), .int .i64 (q : Int), .int .i64 (u : Int)] t4))
    (r5 : wz.heap[w.heap.size + 1 + 1 + 1 + 1 + 1 + 1]? = some (.cells #[.int .u32 (s : Int), .int .i64 0, .int .i64 (q : Int), .int .i64 (u : Int)] t5)) (W : World) (hW : Below wz.heap.size wz W) : SFits wz w s i m q u o W :=
  ⟨hW, (box3 ((hW.block _ (by omega)).trans r1)).1, (box3 ((hW.block _ (by omega)).trans r1)).2.1, (box3 ((hW.block _ (by omega)).trans r1)).2.2,
    box4 ((hW.block _ (by omega)).trans r2), box3 ((hW.block _ (by omega)).trans r3), box4 ((hW.block _ (by omega)).trans r4), box4 ((hW.block _ (by omega)).trans r5)⟩
theorem sf_next {wz w W W' : World} {s i m q u o : Nat} (h : SFits wz w s i m q u o W) (hb : Below W.heap.size W W') : Below wz.heap.size wz W' := h.1.trans (hb.mono h.1.size)
theorem sf_drew {wz w W : World} {s i m q u o : Nat} (h : SFits wz w s i m q u o W) : Below wz.heap.size wz W.drew := h.1.drew
theorem sf_below {wz w W : World} {s i m q u o : Nat} (h : SFits wz w s i m q u o W) : Below wz.heap.size wz W := h.1
theorem heap_old' (w : World) (o : Obj) (g : Nat) (h : g < w.heap.size) : (w.alloc o).heap[g]? = w.heap[g]? := by
  show (w.heap.push o)[g]? = w.heap[g]?
  rw [Array.getElem?_push, if_neg (Nat.ne_of_lt h)]
def FitsW (w : World) (s i m q u o : Nat) (wz : World) : Prop :=
  Below w.heap.size w wz ∧ wz.heap.size = w.heap.size + 7 ∧
  wz.heap[w.heap.size]? = some (.cells #[.int .u32 (s : Int), .int .u32 (i : Int), .slice (some ⟨w.heap.size + 1 + 1, 0, none⟩) u u] 39) ∧
  wz.heap[w.heap.size + 1]? = some (.cells #[.int .u32 (s : Int), .int .i64 (m : Int), .int .i64 (q : Int), .int .i64 (u : Int)] 41) ∧
  wz.heap[w.heap.size + 1 + 1 + 1]? = some (.cells #[.int .u32 (s : Int), .int .u32 (i : Int), .slice (some ⟨w.heap.size + 1 + 1 + 1 + 1, 0, none⟩) (u + 1) (u + 1)] 39) ∧
  wz.heap[w.heap.size + 1 + 1 + 1 + 1 + 1]? = some (.cells #[.int .u32 (o : Int), .int .i64 (m : Int), .int .i64 (q : Int), .int .i64 (u : Int)] 41) ∧
  wz.heap[w.heap.size + 1 + 1 + 1 + 1 + 1 + 1]? = some (.cells #[.int .u32 (s : Int), .int .i64 0, .int .i64 (q : Int), .int .i64 (u : Int)] 41)
set_option maxHeartbeats 800000 in
theorem fits_walk_ne (s i : Nat) (A : Option Addr) (n c : Nat) (l : List UInt8) (s' : Nat) (K P Z : Int) (o : Nat) (ho : o < 2 ^ 32) (w : World) (hne : s ≠ o) (hs : s < 4294967296) (_ : i < 4294967296) (_ : Row w w.heap.size A n (bv l)) (_ : n ≤ c) (_ : c ≤ 9223372036854775807) :
    Calls Try.prog 8 #[.agg #[.int .u32 (s : Int), .int .u32 (i : Int), .slice A n c], .agg #[.int .u32 (s' : Int), .int .i64 K, .int .i64 P, .int .i64 Z], .int .u32 (o : Int)] w fun e w' => e = .returned (.bool true) ∧ Below w.heap.size w w' := by
  obtain ⟨i0, hi, hz0, hz1, hz2⟩ := info_parts Try.info5
  obtain ⟨k, hk, hK⟩ := pick_in K 64 (by omega) (by omega)
  obtain ⟨q, hq, hP⟩ := pick_in P 17 (by omega) (by omega)
  obtain ⟨z, hz, hZ⟩ := pick_in Z 16 (by omega) (by omega)
  have HK := Lib.hid hK
  have HP := Lib.hid hP
  have HZ := Lib.hid hZ
  have HS := Lib.hid hs
  have HO := Lib.hid ho
  clear hK hP hZ hs ho
  obtain ⟨m, hm⟩ : ∃ m, m = 1 + k := ⟨_, rfl⟩
  obtain ⟨u, hu⟩ : ∃ u, u = 1 + z := ⟨_, rfl⟩
  have hm1 : 1 ≤ m ∧ m ≤ 64 := by omega
  have hu1 : 1 ≤ u ∧ u ≤ 16 := by omega
  have hq1 : q ≤ 16 := by omega
  have HM : Hid (wrap64 (1 + (k : Int)) = (m : Int)) := by show _ = _; rw [IntWalk.wrap64_in _ ⟨by omega, by omega⟩]; omega
  have HU : Hid (wrap64 (1 + (z : Int)) = (u : Int)) := by show _ = _; rw [IntWalk.wrap64_in _ ⟨by omega, by omega⟩]; omega
  clear hm hu hk hz hq
  have hmk1 : ∀ w, (Instr.makeSlice 23 (.int .i64 (u : Int)) (.int .i64 (u : Int))).run Try.prog w = .ok (.slice (some ⟨w.heap.size, 0, none⟩) u u) (w.alloc (.cells (madeCells #[.int .u8 0] u) 5)) :=
    fun w => run_make_row _ _ i0 _ Try.underlying23 hi hz0 hz1 rfl _ _ u (by rw [hz2]; omega) (by omega) w
  have hmk2 : ∀ w, (Instr.makeSlice 23 (.int .i64 ((u : Int) + 1)) (.int .i64 ((u : Int) + 1))).run Try.prog w = .ok (.slice (some ⟨w.heap.size, 0, none⟩) (u + 1) (u + 1)) (w.alloc (.cells (madeCells #[.int .u8 0] (u + 1)) 5)) :=
    fun w => run_make_row _ _ i0 _ Try.underlying23 hi hz0 hz1 rfl _ _ (u + 1) (by rw [hz2]; omega) (by omega) w
  have hmay : mayB (m : Int) (q : Int) (u : Int) = true := by unfold mayB; simp; omega
  have hmay0 : mayB 0 (q : Int) (u : Int) = false := by unfold mayB; simp
  have F1 : Hid (fitsC s s u (m : Int) (q : Int) (u : Int) = 0) := by show _ = _; unfold fitsC; rw [hmay]; simp
  have F2 : Hid (fitsC s s (u + 1) (m : Int) (q : Int) (u : Int) = 3) := by show _ = _; unfold fitsC; rw [hmay]; simp; omega
  have F3 : Hid (s ≠ o → fitsC s o u (m : Int) (q : Int) (u : Int) = 7) := by show _ → _; intro h; unfold fitsC; rw [hmay]; simp [h]
  have F4 : Hid (fitsC s s u 0 (q : Int) (u : Int) = 1) := by show _ = _; unfold fitsC; rw [hmay0]; simp
  clear hmay hmay0
  have hne1 : ((o : Int) != (s : Int)) = true := by simp; omega
  have HNE := Lib.hid hne
  clear hne
  go_enter Try.func8, Try.ntmps8
  go_upto_region 1 with fail
  go_upto_region 2 with fail
  rw [HK.out, HP.out, HZ.out, HM.out, HU.out]
  clear HK HP HZ HM HU
  go_wp2_with fail
  refine wp_gen (FitsW w s i m q u o) ?_ ?_
  · refine ⟨?_, ?_, ?_, ?_, ?_, ?_, ?_⟩
    · exact ((((((((Below.refl _ w).alloc (Nat.le_refl _) _).alloc (by simp) _).alloc (by simp; omega) _).alloc (by simp; omega) _).alloc (by simp; omega) _).alloc (by simp; omega) _).alloc (by simp; omega) _)
    · simp
    all_goals repeat (first | (refine heap_new' _ _ _ ?_; (simp; done)) | (refine (heap_old' _ _ _ ?hold).trans ?_; case hold => (simp <;> omega)))
  rintro wz ⟨hB, hsz, r1, r2, r3, r4, r5⟩
  have hkeep := Lib.hid (fits_keep hsz r1 r2 r3 r4 r5)
  clear r1 r2 r3 r4 r5 hmk1 hmk2 hi hz0 hz1 hz2
  go_region_held3 (SFits wz w s i m q u o)
    (first | exact hkeep.out _ (sf_next (by assumption) (by assumption)) | exact hkeep.out _ (Below.refl _ _).drew | exact hkeep.out _ (Below.refl _ _) | exact hkeep.out _ (sf_drew (by assumption)))
    (first
      | (go_at_call 21; (with_reducible refine (fits_val s i u u s _ m q u 0 _ F1.out).mono ?_); rintro e w' ⟨rfl, hbel⟩)
      | (go_at_call 21; (with_reducible refine (fits_val s i (u + 1) (u + 1) s _ m q u 3 _ F2.out).mono ?_); rintro e w' ⟨rfl, hbel⟩)
      | (go_at_call 21; (with_reducible refine (fits_val s i u u o _ m q u 7 _ (F3.out HNE.out)).mono ?_); rintro e w' ⟨rfl, hbel⟩)
      | (go_at_call 21; (with_reducible refine (fits_val s i u u s _ 0 q u 1 _ F4.out).mono ?_); rintro e w' ⟨rfl, hbel⟩)
      | (go_at_call 14; refine (awake15_any _).mono ?_; rintro e w' ⟨rfl, hbel⟩))
  go_wp2
  go_ret
  exact ⟨rfl, hB.trans ((sf_below (by assumption)).mono hB.size)⟩
set_option maxHeartbeats 800000 in
theorem fits_walk_eq (s i : Nat) (A : Option Addr) (n c : Nat) (l : List UInt8) (s' : Nat) (K P Z : Int) (w : World) (hs : s < 4294967296) (_ : i < 4294967296) (_ : Row w w.heap.size A n (bv l)) (_ : n ≤ c) (_ : c ≤ 9223372036854775807) :
    Calls Try.prog 8 #[.agg #[.int .u32 (s : Int), .int .u32 (i : Int), .slice A n c], .agg #[.int .u32 (s' : Int), .int .i64 K, .int .i64 P, .int .i64 Z], .int .u32 (s : Int)] w fun e w' => e = .returned (.bool true) ∧ Below w.heap.size w w' := by
  obtain ⟨i0, hi, hz0, hz1, hz2⟩ := info_parts Try.info5
  obtain ⟨k, hk, hK⟩ := pick_in K 64 (by omega) (by omega)
  obtain ⟨q, hq, hP⟩ := pick_in P 17 (by omega) (by omega)
  obtain ⟨z, hz, hZ⟩ := pick_in Z 16 (by omega) (by omega)
  have HK := Lib.hid hK
  have HP := Lib.hid hP
  have HZ := Lib.hid hZ
  have HS := Lib.hid hs
  clear hK hP hZ hs
  obtain ⟨m, hm⟩ : ∃ m, m = 1 + k := ⟨_, rfl⟩
  obtain ⟨u, hu⟩ : ∃ u, u = 1 + z := ⟨_, rfl⟩
  have hm1 : 1 ≤ m ∧ m ≤ 64 := by omega
  have hu1 : 1 ≤ u ∧ u ≤ 16 := by omega
  have hq1 : q ≤ 16 := by omega
  have HM : Hid (wrap64 (1 + (k : Int)) = (m : Int)) := by show _ = _; rw [IntWalk.wrap64_in _ ⟨by omega, by omega⟩]; omega
  have HU : Hid (wrap64 (1 + (z : Int)) = (u : Int)) := by show _ = _; rw [IntWalk.wrap64_in _ ⟨by omega, by omega⟩]; omega
  clear hm hu hk hz hq
  have hmk1 : ∀ w, (Instr.makeSlice 23 (.int .i64 (u : Int)) (.int .i64 (u : Int))).run Try.prog w = .ok (.slice (some ⟨w.heap.size, 0, none⟩) u u) (w.alloc (.cells (madeCells #[.int .u8 0] u) 5)) :=
    fun w => run_make_row _ _ i0 _ Try.underlying23 hi hz0 hz1 rfl _ _ u (by rw [hz2]; omega) (by omega) w
  have hmk2 : ∀ w, (Instr.makeSlice 23 (.int .i64 ((u : Int) + 1)) (.int .i64 ((u : Int) + 1))).run Try.prog w = .ok (.slice (some ⟨w.heap.size, 0, none⟩) (u + 1) (u + 1)) (w.alloc (.cells (madeCells #[.int .u8 0] (u + 1)) 5)) :=
    fun w => run_make_row _ _ i0 _ Try.underlying23 hi hz0 hz1 rfl _ _ (u + 1) (by rw [hz2]; omega) (by omega) w
  have hmay : mayB (m : Int) (q : Int) (u : Int) = true := by unfold mayB; simp; omega
  have hmay0 : mayB 0 (q : Int) (u : Int) = false := by unfold mayB; simp
  have F1 : Hid (fitsC s s u (m : Int) (q : Int) (u : Int) = 0) := by show _ = _; unfold fitsC; rw [hmay]; simp
  have F2 : Hid (fitsC s s (u + 1) (m : Int) (q : Int) (u : Int) = 3) := by show _ = _; unfold fitsC; rw [hmay]; simp; omega
  have F4 : Hid (fitsC s s u 0 (q : Int) (u : Int) = 1) := by show _ = _; unfold fitsC; rw [hmay0]; simp
  clear hmay hmay0
  go_enter Try.func8, Try.ntmps8
  go_upto_region 1 with fail
  go_upto_region 2 with fail
  rw [HK.out, HP.out, HZ.out, HM.out, HU.out]
  clear HK HP HZ HM HU
  go_wp2_with fail
  refine wp_gen (FitsW w s i m q u s) ?_ ?_
  · refine ⟨?_, ?_, ?_, ?_, ?_, ?_, ?_⟩
    · exact ((((((((Below.refl _ w).alloc (Nat.le_refl _) _).alloc (by simp) _).alloc (by simp; omega) _).alloc (by simp; omega) _).alloc (by simp; omega) _).alloc (by simp; omega) _).alloc (by simp; omega) _)
    · simp
    all_goals repeat (first | (refine heap_new' _ _ _ ?_; (simp; done)) | (refine (heap_old' _ _ _ ?hold).trans ?_; case hold => (simp <;> omega)))
  rintro wz ⟨hB, hsz, r1, r2, r3, r4, r5⟩
  have hkeep := Lib.hid (fits_keep hsz r1 r2 r3 r4 r5)
  clear r1 r2 r3 r4 r5 hmk1 hmk2 hi hz0 hz1 hz2
  go_region_held3 (SFits wz w s i m q u s)
    (first | exact hkeep.out _ (sf_next (by assumption) (by assumption)) | exact hkeep.out _ (Below.refl _ _).drew | exact hkeep.out _ (Below.refl _ _) | exact hkeep.out _ (sf_drew (by assumption)))
    (first
      | (go_at_call 21; (with_reducible refine (fits_val s i u u s _ m q u 0 _ F1.out).mono ?_); rintro e w' ⟨rfl, hbel⟩)
      | (go_at_call 21; (with_reducible refine (fits_val s i (u + 1) (u + 1) s _ m q u 3 _ F2.out).mono ?_); rintro e w' ⟨rfl, hbel⟩)
      | (go_at_call 21; (with_reducible refine (fits_val s i u u s _ 0 q u 1 _ F4.out).mono ?_); rintro e w' ⟨rfl, hbel⟩)
      | (go_at_call 14; refine (awake15_any _).mono ?_; rintro e w' ⟨rfl, hbel⟩))
  go_wp2
  go_ret
  exact ⟨rfl, hB.trans ((sf_below (by assumption)).mono hB.size)⟩
theorem fits_walk (s i : Nat) (A : Option Addr) (n c : Nat) (l : List UInt8) (s' : Nat) (K P Z : Int) (o : Nat) (ho : o < 2 ^ 32) (w : World) (hs : s < 4294967296) (hi : i < 4294967296) (hr : Row w w.heap.size A n (bv l)) (hn : n ≤ c) (hc : c ≤ 9223372036854775807) :
    Calls Try.prog 8 #[.agg #[.int .u32 (s : Int), .int .u32 (i : Int), .slice A n c], .agg #[.int .u32 (s' : Int), .int .i64 K, .int .i64 P, .int .i64 Z], .int .u32 (o : Int)] w fun e w' => e = .returned (.bool true) ∧ Below w.heap.size w w' := by
  by_cases h : s = o
  · subst h
    exact fits_walk_eq s i A n c l s' K P Z w hs hi hr hn hc
  · exact fits_walk_ne s i A n c l s' K P Z o ho w h hs hi hr hn hc
end Go.Proofs.Ytknealemooanead
