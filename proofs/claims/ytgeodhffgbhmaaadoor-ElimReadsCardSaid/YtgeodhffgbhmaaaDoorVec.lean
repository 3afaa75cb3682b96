/- Rows of bits as they lie in memory; vec's New, within, Len, Has, Set by contract. -/
import Derived.Test.YtgeodhffgbhmaaaDoorOwn
import Derived.Test.YtgeodhffgbhmaaaDoorRows
import Derived.Test.YtgeodhffgbhmaaaDoorVecMath
import Derived.Laws.NewBlocks
import Derived.Laws.Tables
import Derived.Laws.BitsAllLaws
import Derived.BigQuiet
import Derived.Deep.QuietTactic
import Derived.Deep.RegionWith
import Derived.Deep.DeepCutAuto
import Derived.WalkSpells
import Derived.WalkLawsBesides
namespace Go.Proofs.YtgeodhffgbhmaaaDoor.Vc
open Go.RowKit
open VecM
def mw (n : Nat) : Nat := (n + 63) / 64
/-- block g is a row of n bits, X as a number, its words in block h -/
def VecAt (W : World) (g h n X : Nat) : Prop :=
  n ≤ 256 ∧ X < 2 ^ n ∧ g ≠ h ∧ ∃ cap cs, W.heap[g]? = some (.cells #[.int .i64 (n : Int), .slice (some ⟨h, 0, none⟩) (mw n) cap] 101 (0, 0)) ∧
    W.heap[h]? = some (.cells cs 52 (0, 0)) ∧ mw n ≤ cap ∧ cap ≤ 9223372036854775807 ∧ mw n ≤ cs.size ∧ ∀ k, k < mw n → cs[k]? = some (.int .u64 (word X k : Int))
section
variable {W W' : World} {g h n X : Nat}
theorem VecAt.lt (v : VecAt W g h n X) : g < W.heap.size ∧ h < W.heap.size := by
  obtain ⟨_, _, _, cap, cs, h1, h2, _⟩ := v
  exact ⟨(Array.getElem?_eq_some_iff.1 h1).1, (Array.getElem?_eq_some_iff.1 h2).1⟩
theorem VecAt.keep (v : VecAt W g h n X) (h1 : W'.heap[g]? = W.heap[g]?) (h2 : W'.heap[h]? = W.heap[h]?) : VecAt W' g h n X := by
  obtain ⟨a, b, c, cap, cs, e1, e2, r⟩ := v
  exact ⟨a, b, c, cap, cs, h1.trans e1, h2.trans e2, r⟩
theorem VecAt.below (v : VecAt W g h n X) (hb : Below W.heap.size W W') : VecAt W' g h n X := v.keep (hb.block g v.lt.1) (hb.block h v.lt.2)
theorem VecAt.belowB {B : Nat} (v : VecAt W g h n X) (hb : Below B W W') (h1 : g < B) (h2 : h < B) : VecAt W' g h n X := v.keep (hb.block g h1) (hb.block h h2)
theorem VecAt.grown (v : VecAt W g h n X) {r : Nat} (hg : W.grownBy W' (some r)) (h1 : r ≠ g) (h2 : r ≠ h) : VecAt W' g h n X :=
  v.keep (hg.block g v.lt.1 (fun e => h1 (Option.some.inj e.symm ▸ rfl))) (hg.block h v.lt.2 (fun e => h2 (Option.some.inj e.symm ▸ rfl)))
theorem VecAt.drewN (v : VecAt W g h n X) (k : Nat) : VecAt (W.drewN k) g h n X := v
theorem VecAt.drew (v : VecAt W g h n X) : VecAt W.drew g h n X := v
/-- what the walk reads of it -/
theorem VecAt.cells (v : VecAt W g h n X) : ∃ cap, mw n ≤ cap ∧ cap ≤ 9223372036854775807 ∧ W.cell? ⟨g, 0, none⟩ = some (.int .i64 (n : Int)) ∧ W.cell? ⟨g, 1, none⟩ = some (.slice (some ⟨h, 0, none⟩) (mw n) cap) := by
  obtain ⟨_, _, _, cap, cs, h1, h2, h3, h4, _⟩ := v
  exact ⟨cap, h3, h4, by rw [cell_of_row W g 0 _ _ _ h1]; rfl, by rw [cell_of_row W g 1 _ _ _ h1]; rfl⟩
theorem VecAt.at_ (v : VecAt W g h n X) {k : Nat} (hk : k < mw n) : W.cell? ⟨h, k, none⟩ = some (.int .u64 (word X k : Int)) := by
  obtain ⟨_, _, _, cap, cs, _, h2, _, _, _, hc⟩ := v
  rw [cell_of_row W h k cs _ (0, 0) h2]; exact hc k hk
theorem VecAt.frozen (v : VecAt W g h n X) (k : Nat) : W.frozen? ⟨h, k, none⟩ = false := by
  obtain ⟨_, _, _, cap, cs, _, h2, _⟩ := v
  exact frozen_of_row W h k cs _ h2
theorem grown_set1 (W : World) (g k : Nat) (v : Value) : W.grownBy (W.setCell ⟨g, k, none⟩ v) (some g) :=
  ⟨rfl, rfl, rfl, by simp, fun j _ hj => heap_setCell_other W ⟨g, k, none⟩ j v (fun e => hj (by simp [e]))⟩
/-- a word stored -/
theorem VecAt.store (v : VecAt W g h n X) {k Y : Nat} {u : Int} (hk : k < mw n) (hY : Y < 2 ^ n) (hu : u = (word Y k : Int)) (ho : ∀ j, j < mw n → j ≠ k → word Y j = word X j) : VecAt (W.setCell ⟨h, k, none⟩ (.int .u64 u)) g h n Y := by
  obtain ⟨a, b, c, cap, cs, e1, e2, e3, e4, e5, e6⟩ := v
  refine ⟨a, hY, c, cap, cs.setIfInBounds k (.int .u64 u), ?_, heap_setCell_same W h k cs _ _ e2, e3, e4, by simpa using e5, fun j hj => ?_⟩
  · rw [heap_setCell_other W ⟨h, k, none⟩ g _ c]; exact e1
  · rw [Array.getElem?_setIfInBounds]
    by_cases e : k = j
    · subst e; rw [if_pos rfl, if_pos (by omega), hu]
    · rw [if_neg e, ho j hj (fun e' => e e'.symm)]; exact e6 j hj
end
theorem mw_le {n : Nat} (h : n ≤ 256) : mw n ≤ 4 := by unfold mw; omega
theorem mw_div {n i : Nat} (h : i < n) : i / 64 < mw n := by unfold mw; omega
theorem word_zero (k : Nat) : word 0 k = 0 := by unfold word; rw [Nat.zero_div, Nat.zero_mod]
theorem mk_u64 (w : World) : (zeroValue 52).run Tryd.prog w = .ok (.int .u64 0) w := by kernel_rfl
def NewOk (n : Nat) (w : World) (e : Ending) (w' : World) : Prop :=
  ∃ g h, e = .returned (.pointer (some ⟨g, 0, none⟩)) ∧ w.heap.size ≤ g ∧ w.heap.size ≤ h ∧ Hid (VecAt w' g h n 0) ∧ Hid (Below w.heap.size w w')
set_option maxRecDepth 100000 in
theorem new_bad (x : Int) (w : World) (h : x < 0 ∨ 256 < x) : Calls Tryd.prog 25 #[.int .i64 x] w fun e w' => e = .returned (.pointer none) ∧ w = w' := by
  rcases h with h | h
  · go_enter Tryd.func25, Tryd.ntmps25
    go_wp2_with fail
    go_ret
    exact ⟨rfl, rfl⟩
  · have h0 : ¬ x < 0 := by omega
    go_enter Tryd.func25, Tryd.ntmps25
    go_wp2_with fail
    go_ret
    exact ⟨rfl, rfl⟩
theorem infoU64 : (Tryd.prog.info? 52).map (fun i => (i.zero, i.size, i.bytes)) = some (some (.int .u64 0), 1, 8) := by kernel_rfl
/-- 'make([]uint64, n)' -/
theorem made_u64 (m : Nat) (hm : m ≤ 4) : ∃ C : Array Value, C.size = m ∧ (∀ k, k < m → C[k]? = some (.int .u64 0)) ∧ ∀ w : World, (Instr.makeSlice 99 (.int .i64 (m : Int)) (.int .i64 (m : Int))).run Tryd.prog w = .ok (.slice (some ⟨w.heap.size, 0, none⟩) m m) (w.alloc (.cells C 52)) := by
  obtain ⟨i0, hi, hz0, hz1, hz2⟩ := info_parts infoU64
  have h := fun w => run_make (P := Tryd.prog) w 99 52 i0 (.int .u64 0) Tryd.underlying99 hi hz0 .i64 .i64 (m : Int) (m : Int) (by omega) (by omega) (by rw [hz2]; omega) (by omega)
  rw [hz1] at h
  refine ⟨madeCells (Value.int .u64 0).cells m, ?_, ?_, fun w => by simpa using h w⟩
  · exact size_madeCells _ _
  · intro k hk
    have e : (madeCells (Value.int .u64 0).cells m).toList = List.replicate m (.int .u64 0) := toList_madeCells_one (.int .u64 0) m
    rw [← Array.getElem?_toList, e, List.getElem?_replicate, if_pos hk]
set_option maxRecDepth 100000 in
set_option maxHeartbeats 800000 in
theorem new_ok (n : Nat) (w : World) (h : n ≤ 256) : Calls Tryd.prog 25 #[.int .i64 (n : Int)] w (NewOk n w) := by
  have h1 : ¬ 256 < (n : Int) := by omega
  have e : ((n : Int) + 63) / 64 = (mw n : Int) := by unfold mw; omega
  have HE := Lib.hid e
  obtain ⟨C, hC1, hC2, hmk⟩ := made_u64 (mw n) (mw_le h)
  have HV : Hid (VecAt ((w.alloc (.cells C 52)).alloc (.cells #[.int .i64 (n : Int), .slice (some ⟨w.heap.size, 0, none⟩) (mw n) (mw n)] 101)) (w.heap.size + 1) w.heap.size n 0) := by
    have hm := mw_le h
    refine ⟨h, Nat.two_pow_pos n, by omega, mw n, C, ?_, ?_, Nat.le_refl _, by omega, by omega, fun k hk => ?_⟩
    · have := heap_alloc_new (w.alloc (.cells C 52)) (.cells #[.int .i64 (n : Int), .slice (some ⟨w.heap.size, 0, none⟩) (mw n) (mw n)] 101)
      simpa using this
    · have hb : Below (w.alloc (.cells C 52)).heap.size (w.alloc (.cells C 52)) ((w.alloc (.cells C 52)).alloc (.cells #[.int .i64 (n : Int), .slice (some ⟨w.heap.size, 0, none⟩) (mw n) (mw n)] 101)) := (Below.refl _ _).alloc (Nat.le_refl _) _
      rw [hb.block w.heap.size (by simp)]
      exact heap_alloc_new w _
    · rw [hC2 k hk, word_zero]; rfl
  clear e h hC1 hC2
  go_enter Tryd.func25, Tryd.ntmps25
  go_wp2_with (rw [HE.out])
  go_ret
  exact ⟨_, _, rfl, by omega, Nat.le_refl _, HV, ((Below.refl _ _).alloc (Nat.le_refl _) _).alloc (by simp) _⟩
set_option maxRecDepth 100000 in
theorem within_nil (i : Int) (w : World) : Calls Tryd.prog 52 #[.pointer none, .int .i64 i] w fun e w' => e = .returned (.bool false) ∧ w = w' := by
  go_enter Tryd.func52, Tryd.ntmps52
  go_wp2_with fail
  go_ret
  exact ⟨rfl, rfl⟩
set_option maxRecDepth 100000 in
theorem within_out (g h n X : Nat) (i : Int) (w : World) (v : VecAt w g h n X) (hi : i < 0 ∨ (n : Int) ≤ i) : Calls Tryd.prog 52 #[.pointer (some ⟨g, 0, none⟩), .int .i64 i] w fun e w' => e = .returned (.bool false) ∧ w = w' := by
  obtain ⟨cap, _, _, c0, _⟩ := v.cells
  clear v
  rcases hi with hi | hi
  · go_enter Tryd.func52, Tryd.ntmps52
    go_wp2_with fail
    go_ret
    exact ⟨rfl, rfl⟩
  · have h0 : 0 ≤ i := by omega
    have hd : decide (i < (n : Int)) = false := by simpa using hi
    go_enter Tryd.func52, Tryd.ntmps52
    go_wp2_with fail
    go_ret
    exact ⟨rfl, rfl⟩
set_option maxRecDepth 100000 in
theorem within_in (g h n X i : Nat) (w : World) (v : VecAt w g h n X) (hi : i < n) : Calls Tryd.prog 52 #[.pointer (some ⟨g, 0, none⟩), .int .i64 (i : Int)] w fun e w' => e = .returned (.bool true) ∧ w = w' := by
  obtain ⟨cap, _, _, c0, _⟩ := v.cells
  clear v
  have h0 : (i : Int) < (n : Int) := by omega
  go_enter Tryd.func52, Tryd.ntmps52
  go_wp2_with fail
  go_ret
  exact ⟨rfl, rfl⟩
end Go.Proofs.YtgeodhffgbhmaaaDoor.Vc
