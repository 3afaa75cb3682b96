/- awake of layer 10. -/
import Derived.Test.YtiogkokcoedonaaBlkJoin
import Derived.BigQuiet
import Derived.Deep.QuietTactic
import Derived.Deep.RegionHeld3
namespace Go.Proofs.Ytiogkokcoedonaa
open Go.RowKit
theorem join_at (g : Nat) (B n cap : Nat) (es : List BRow) (w : World) (hl : Rows2 w B (some ⟨g, 0, none⟩) n es) (hn : n ≤ 1000000000000000000) (hB : B ≤ w.heap.size) (hbig : ∀ r ∈ es, r.n ≤ r.c ∧ r.c ≤ 9223372036854775807) (L : Int) :
    Calls Try.prog 16 #[.slice (some ⟨g, 0, none⟩) n cap, .int .i64 L] w (FreshBytes w.heap.size (joinF es L) w) := by
  by_cases h : L < 1 ∨ 512 < L
  · rw [show joinF es L = [] by unfold joinF; rw [if_pos h]]
    exact join_out n cap _ L w h
  · obtain ⟨k, rfl⟩ : ∃ k : Nat, L = k := ⟨L.toNat, by omega⟩
    exact join_in B n cap _ es k w hl (by omega) (by omega) hn hB hbig
theorem splitRows_big (l : List UInt8) (s c g : Nat) (hs : s ≤ 1000) : ∀ r ∈ splitRows l s c g, r.n ≤ r.c ∧ r.c ≤ 9223372036854775807 := by
  intro r hr
  simp only [splitRows, List.mem_map, List.mem_range] at hr
  obtain ⟨j, hj, rfl⟩ := hr
  exact ⟨Nat.le_refl _, by show s ≤ _; omega⟩
theorem split_join {l : List UInt8} {s c g : Nat} {w w' : World} (h : SplitW l s c g c w w') (hs : s ≤ 1000) (hc : c ≤ 1000000000) (L : Int) :
    Calls Try.prog 16 #[.slice (some ⟨g, 0, none⟩) c c, .int .i64 L] w' (FreshBytes w'.heap.size (joinF (splitRows l s c g) L) w') :=
  join_at g _ c c _ w' h.rows (by omega) (Nat.le_refl _) (splitRows_big l s c g hs) L
theorem split_at (g B n cap s c : Nat) (A : Option Addr) (l : List UInt8) (w : World) (hg : w.heap.size = g) (hl : Row w B A n (bv l)) (hnc : n ≤ cap) (hcap : cap ≤ 9223372036854775807) (hcN : BlkM.count n s = c) (hc0 : 0 < c) (hB : B ≤ w.heap.size) :
    Calls Try.prog 14 #[.slice A n cap, .int .i64 (s : Int)] w (fun e w' => e = .returned (.slice (some ⟨g, 0, none⟩) c c) ∧ SplitW l s c g c w w') := by
  subst hg
  exact split_ok B n cap s c A l w hl hnc hcap hcN hc0 hB
theorem awake10_l1 : BlkM.piece [1, 2, 3] 2 1 = [3, 0] := by decide +kernel
theorem awake10_j (g : Nat) : joinF (splitRows [1, 2, 3] 2 2 g) 3 = [1, 2, 3] := by
  unfold joinF
  rw [splitRows_flat _ _ _ _ (by simp)]
  decide
set_option maxHeartbeats 800000 in
theorem awake10_any (w : World) : Calls Try.prog 10 #[] w fun e w' => e = .returned (.bool true) ∧ Below w.heap.size w w' := by
  have hcn : (BlkM.count 3 2 : Nat) = 2 := by decide +kernel
  have HCN := Lib.hid hcn
  clear hcn
  go_enter Try.func10, Try.ntmps10
  go_wp2_with fail
  refine (split_at (w.heap.size + 1) (w.heap.size + 1) 3 3 2 2 _ [1, 2, 3] _ (by simp) (row_new w _ _ _) (by omega) (by omega) rfl (by omega) (by simp)).mono ?_
  rintro e w1 ⟨rfl, hS⟩
  have HS := Lib.hid hS
  have hb1 : Below w.heap.size w w1 := ((Below.refl _ _).alloc (Nat.le_refl _) _).trans (hS.2.2.2.mono (by omega))
  have hc1 : w1.cell? ⟨w.heap.size + 1, 1, none⟩ = some (.slice (some ⟨w.heap.size + 3, 0, none⟩) 2 2) := by
    rw [cell_of_row _ _ 1 _ _ _ hS.2.1]; simp [pcs_get]
  have hrow := (hS.rows.2 ⟨some ⟨w.heap.size + 1 + 1 + 1, 0, none⟩, 2, 2, BlkM.piece [1, 2, 3] 2 1⟩ (by simp [splitRows]; exact ⟨1, by omega, rfl, rfl⟩))
  rw [awake10_l1] at hrow
  have hk := run_string_row (P := Try.prog) (show Row w1 w1.heap.size (some ⟨w.heap.size + 3, 0, none⟩) 2 (bv [3, 0]) from hrow) 2 22 9 5 Try.underlying22 Try.underlying5 Try.underlying9
  clear hrow hS
  go_wp2_with fail
  refine (count_any 3 2 _).mono ?_
  rintro e w2 ⟨rfl, rfl⟩
  rw [HCN.out]
  go_wp2_with fail
  refine (split_join HS.out (by omega) (by omega) 3).mono ?_
  rw [awake10_j]
  rintro e w2 ⟨A2, n2, c2, rfl, hn2, hown2, hb2⟩
  have hk2 := run_string_row (P := Try.prog) (Row.of_own hown2) c2 22 9 5 Try.underlying22 Try.underlying5 Try.underlying9
  have hs := hb1.size
  clear hk hn2 hc1
  go_wp2_with fail
  go_ret
  exact ⟨rfl, hb1.trans (hb2.mono hs)⟩
end Go.Proofs.Ytiogkokcoedonaa
