/- same, the reference's Next, awake of layer 4. -/
import Derived.Test.YtfgcolplhadcjaaRandSome
namespace Go.Proofs.Ytfgcolplhadcjaa
open Go.RowKit
open RdM
set_option maxRecDepth 100000 in
theorem r1next_any (g : Nat) (x : Int) (w : World) (hs : r1Src w g x) (h0 : 0 ≤ x) (h1 : x ≤ 4294967295) : Calls Try.prog 31 #[.pointer (some ⟨g, 0, none⟩)] w fun e w' => e = .returned (.int .u32 (mx (sh x))) ∧ w' = w.setCell ⟨g, 0, none⟩ (.int .u32 (sh x)) := by
  have hc : w.cell? ⟨g, 0, none⟩ = some (.int .u32 x) := by rw [cell_of_row w g 0 _ _ _ hs]; rfl
  have hf : w.frozen? ⟨g, 0, none⟩ = false := frozen_of_row w g 0 _ _ hs
  have hsz : (Try.prog.info? 25).map (·.size) = some 1 := by kernel_rfl
  clear hs
  by_cases hx : x = 0
  · subst hx
    have hb := Lib.hid (sh_bounds 0)
    have HB : Hid (bits BinOp.xor IntKind.u32 (bits BinOp.xor IntKind.u32 (bits BinOp.xor IntKind.u32 1 8192) (bits BinOp.xor IntKind.u32 1 8192 / 131072)) (bits BinOp.xor IntKind.u32 (bits BinOp.xor IntKind.u32 1 8192) (bits BinOp.xor IntKind.u32 1 8192 / 131072) * 32 % 4294967296) = sh 0) := rfl
    go_enter Try.func31, Try.ntmps31
    go_wp2_with fail
    refine (r1mix_any _ ?_ ?_ _).mono ?_
    · rw [HB.out]; exact hb.out.1
    · rw [HB.out]; exact hb.out.2
    rintro e w' ⟨rfl, rfl⟩
    rw [HB.out]
    go_wp2_with fail
    go_ret
    exact ⟨rfl, rfl⟩
  · have hb := Lib.hid (sh_bounds x)
    have HB : Hid (bits BinOp.xor IntKind.u32 (bits BinOp.xor IntKind.u32 (bits BinOp.xor IntKind.u32 x (x * 8192 % 4294967296)) (bits BinOp.xor IntKind.u32 x (x * 8192 % 4294967296) / 131072)) (bits BinOp.xor IntKind.u32 (bits BinOp.xor IntKind.u32 x (x * 8192 % 4294967296)) (bits BinOp.xor IntKind.u32 x (x * 8192 % 4294967296) / 131072) * 32 % 4294967296) = sh x) := by
      show _ = _
      unfold sh
      rw [if_neg hx]
    go_enter Try.func31, Try.ntmps31
    go_wp2_with fail
    refine (r1mix_any _ ?_ ?_ _).mono ?_
    · rw [HB.out]; exact hb.out.1
    · rw [HB.out]; exact hb.out.2
    rintro e w' ⟨rfl, rfl⟩
    rw [HB.out]
    go_wp2_with fail
    go_ret
    exact ⟨rfl, rfl⟩
set_option maxHeartbeats 800000 in
theorem same_any (B1 B2 n c1 c2 : Nat) (A1 A2 : Option Addr) (l : List Int) (w : World) (h1 : Row w B1 A1 n (iv l)) (h2 : Row w B2 A2 n (iv l)) (hn : n ≤ 1000000) :
    Calls Try.prog 18 #[.slice A1 n c1, .slice A2 n c2] w fun e w' => e = .returned (.bool true) ∧ Below w.heap.size w w' := by
  have HL : Hid (l.length = n) := by have := h1.1; rwa [iv_length] at this
  go_enter Try.func18, Try.ntmps18
  go_wp2_with fail
  go_loopw [13] (fun z wr => ∃ i : Nat, i ≤ n ∧ z = .int .i64 i ∧ ∃ q, wr = w.drewN q) (fun z _ => n - (intOf z).toNat)
  case atStart => exact ⟨0, by omega, rfl, 0, rfl⟩
  case round =>
    obtain ⟨i, hi, rfl, q, rfl⟩ := hrel
    by_cases hlt : i < n
    · obtain ⟨b1, o1, rfl, _, hc1⟩ := h1.cellAt hlt (iv_get l i (by rw [HL.out]; exact hlt))
      obtain ⟨b2, o2, rfl, _, hc2⟩ := h2.cellAt hlt (iv_get l i (by rw [HL.out]; exact hlt))
      have hii : (i : Int) < (n : Int) := by omega
      generalize l.getD i 0 = v at *
      go_wp2_with fail
      go_quiet (fail)
      go_wp2_with fail
      go_roundw
      case rel => exact ⟨i + 1, by omega, by go_num, _, (by rfl)⟩
      case measure => simp [intOf]; omega
    · obtain rfl : n = i := by omega
      go_wp2_with fail
      go_ret
      exact ⟨rfl, ⟨rfl, rfl, rfl, Nat.le_refl _, fun _ _ => rfl⟩⟩
theorem ids5 : iv (ids 5) = [.int .i64 0, .int .i64 1, .int .i64 2, .int .i64 3, .int .i64 4] := by simp [iv, ids, List.range, List.range.loop]
set_option maxRecDepth 100000 in
set_option maxHeartbeats 400000 in
theorem awake4_any (w : World) : Calls Try.prog 16 #[] w fun e w' => e = .returned (.bool true) ∧ Below w.heap.size w w' := by
  have hsd := seed_bounds 1 2
  have HSD := Lib.hid hsd
  clear hsd
  go_enter Try.func16, Try.ntmps16
  go_wp2_with fail
  refine (new_any 1 2 (by omega) (by omega) (by omega) (by omega) w).mono ?_
  rintro e w1 ⟨rfl, hs1, hb1, hz1⟩
  clear hz1
  have HS1 := Lib.hid hs1
  clear hs1
  go_wp2_with fail
  refine (next_any w.heap.size (seed 1 2) w1 HS1.out).mono ?_
  rintro e w2 ⟨rfl, hs2, hb2, hz2⟩
  clear hz2
  have HS2 := Lib.hid hs2
  have HBT := Lib.hid (hb1.trans (hb2.below (Nat.le_refl _) hb1.size))
  clear hs2 hb2
  go_wp2_with fail
  refine (r1new_any 1 2 (by omega) (by omega) (by omega) (by omega) w2).mono ?_
  rintro e w3 ⟨rfl, rfl⟩
  go_wp2_with fail
  refine (r1next_any w2.heap.size (seed 1 2) _ (heap_alloc_new w2 _) HSD.out.1 HSD.out.2).mono ?_
  rintro e w3 ⟨rfl, rfl⟩
  have hs3 : Src ((w2.alloc (.cells #[.int .u32 (seed 1 2)] 79)).setCell ⟨w2.heap.size, 0, none⟩ (.int .u32 (sh (seed 1 2)))) w.heap.size (sh (seed 1 2)) :=
    HS2.out.below (((Below.refl _ _).alloc (Nat.le_refl _) _).setCell (Nat.le_refl _) _) HS2.out.lt
  have hb3 : Below w.heap.size w ((w2.alloc (.cells #[.int .u32 (seed 1 2)] 79)).setCell ⟨w2.heap.size, 0, none⟩ (.int .u32 (sh (seed 1 2)))) := (HBT.out.alloc HBT.out.size _).setCell HBT.out.size _
  generalize ((w2.alloc (.cells #[.int .u32 (seed 1 2)] 79)).setCell ⟨w2.heap.size, 0, none⟩ (.int .u32 (sh (seed 1 2)))) = w3 at *
  have HS3 := Lib.hid hs3
  clear hs3
  generalize seed 1 2 = sd at *
  generalize hsq : sh sd = sq at *
  go_wp2_with fail
  refine (some_any w.heap.size 5 sq 5 w3 HS3.out (by omega) (by omega) 5 rfl).mono ?_
  rintro e w4 ⟨A4, c4, rfl, hown4, _, hbut4⟩
  rw [some_all 5 (by omega)] at hown4
  have HOWN := Lib.hid hown4
  have hb4 : Below w.heap.size w w4 := hb3.trans (hbut4.below (Nat.le_refl _) hb3.size)
  clear hown4 hbut4
  go_wp2_with fail
  refine (same_any (w4.heap.size + 1) (w4.heap.size + 1) 5 c4 5 A4 (some ⟨w4.heap.size, 0, none⟩) (ids 5) _ (((Row.of_own HOWN.out).alloc (Nat.le_refl _) _).more (by omega)) (by rw [ids5]; exact row_new w4 _ _ _) (by omega)).mono ?_
  rintro e w5 ⟨rfl, hb5⟩
  have hb5' := (hb4.alloc hb4.size (.cells #[.int .i64 0, .int .i64 1, .int .i64 2, .int .i64 3, .int .i64 4] 3)).trans (hb5.mono (by have := hb4.size; simp; omega))
  clear hb5
  go_wp2_with fail
  go_ret
  exact ⟨rfl, hb5'⟩
end Go.Proofs.Ytfgcolplhadcjaa
