/- Rows of bits as numbers: words, bytes, places; plain mathematics. -/
import Derived.Lib.TrailingZeros
import Derived.Laws.NewBlocks
import Derived.Laws.Tables
import Derived.Laws.BitsAllLaws
import Derived.BigQuiet
import Derived.Deep.QuietTactic
import Derived.Deep.RegionWith
import Derived.Deep.DeepCutAuto
import Derived.WalkSpells
import Derived.WalkLawsBesides
import Derived.Lib.SliceRun
import Derived.Deep.RegionHeld3
import Derived.Test.YtmncpgfdpcckpaaGreatDoorZAQN
import Derived.Test.YtmncpgfdpcckpaaGreatDoorRows
set_option maxRecDepth 100000
namespace Go.Proofs.YtmncpgfdpcckpaaGreatDoor
namespace VecM
def word (X k : Nat) : Nat := X / 2 ^ (64 * k) % 2 ^ 64
theorem word_lt (X k : Nat) : word X k < 2 ^ 64 := Nat.mod_lt _ (Nat.two_pow_pos 64)
theorem word_bit (X k j : Nat) : (word X k).testBit j = (decide (j < 64) && X.testBit (64 * k + j)) := by
 unfold word; rw [Nat.testBit_mod_two_pow, Nat.testBit_div_two_pow, Nat.add_comm]
theorem word_or (X Y k : Nat) : word (X ||| Y) k = word X k ||| word Y k := by
 apply Nat.eq_of_testBit_eq; intro j
 rw [Nat.testBit_or, word_bit, word_bit, word_bit, Nat.testBit_or]
 cases decide (j < 64) <;> simp
theorem word_xor (X Y k : Nat) : word (X ^^^ Y) k = word X k ^^^ word Y k := by
 apply Nat.eq_of_testBit_eq; intro j
 rw [Nat.testBit_xor, word_bit, word_bit, word_bit, Nat.testBit_xor]
 cases decide (j < 64) <;> simp
theorem word_and (X Y k : Nat) : word (X &&& Y) k = word X k &&& word Y k := by
 apply Nat.eq_of_testBit_eq; intro j
 rw [Nat.testBit_and, word_bit, word_bit, word_bit, Nat.testBit_and]
 cases decide (j < 64) <;> simp
theorem word_one (i k : Nat) : word (2 ^ i) k = if k = i / 64 then 2 ^ (i % 64) else 0 := by
 apply Nat.eq_of_testBit_eq; intro j
 rw [word_bit, Nat.testBit_two_pow]
 by_cases h : k = i / 64
 ·rw [if_pos h, Nat.testBit_two_pow]
  by_cases hj : j < 64
  ·simp only [hj, decide_true, Bool.true_and]
   congr 1
   simp only [eq_iff_iff]
   omega
  ·have : ¬ i % 64 = j := by omega
   simp [hj, this]
 ·rw [if_neg h]
  by_cases hj : j < 64
  ·have : ¬ i = 64 * k + j := by omega
   simp [this]
  ·simp [hj]
def clr (X i : Nat) : Nat := X ^^^ (X &&& 2 ^ i)
theorem clr_bit (X i j : Nat) : (clr X i).testBit j = (X.testBit j && decide (j ≠ i)) := by
 unfold clr
 rw [Nat.testBit_xor, Nat.testBit_and, Nat.testBit_two_pow]
 by_cases h : j = i
 ·subst h; simp
 ·have : ¬ i = j := fun e => h e.symm
  simp [h, this]
theorem clr_lt {X n i : Nat} (h : X < 2 ^ n) : clr X i < 2 ^ n :=
 Nat.xor_lt_two_pow h (Nat.lt_of_le_of_lt Nat.and_le_left h)
theorem word_clr (X i k : Nat) : word (clr X i) k = if k = i / 64 then clr (word X k) (i % 64) else word X k := by
 unfold clr
 rw [word_xor, word_and, word_one]
 by_cases h : k = i / 64
 ·rw [if_pos h, if_pos h]
 ·rw [if_neg h, if_neg h]; simp
theorem word_set (X i k : Nat) : word (X ||| 2 ^ i) k = if k = i / 64 then word X k ||| 2 ^ (i % 64) else word X k := by
 rw [word_or, word_one]
 by_cases h : k = i / 64
 ·rw [if_pos h, if_pos h]
 ·rw [if_neg h, if_neg h]; simp
theorem set_lt {X n i : Nat} (h : X < 2 ^ n) (hi : i < n) : X ||| 2 ^ i < 2 ^ n :=
 Nat.or_lt_two_pow h (Nat.pow_lt_pow_right (by decide) hi)
theorem has_word (X i : Nat) : word X (i / 64) / 2 ^ (i % 64) % 2 = if X.testBit i then 1 else 0 := by
 have h := word_bit X (i / 64) (i % 64)
 rw [show 64 * (i / 64) + i % 64 = i by omega] at h
 have h64 : i % 64 < 64 := by omega
 simp only [h64, decide_true, Bool.true_and] at h
 rw [← h, Nat.testBit_eq_decide_div_mod_eq]
 by_cases e : word X (i / 64) / 2 ^ (i % 64) % 2 = 1
 ·simp [e]
 ·simp [e]; omega
def L (X n : Nat) : List Nat := (List.range n).filter X.testBit
theorem mem_L (X n j : Nat) : j ∈ L X n ↔ j < n ∧ X.testBit j = true := by simp [L]
theorem L_more {X n m : Nat} (h : X < 2 ^ n) (hm : n ≤ m) : L X m = L X n := by
 obtain ⟨d, rfl⟩ : ∃ d, m = n + d := ⟨m - n, by omega⟩
 unfold L
 rw [List.range_add, List.filter_append, (List.filter_eq_nil_iff (l := (List.range d).map (n + ·))).2 ?_, List.append_nil]
 intro j hj
 simp only [List.mem_map, List.mem_range] at hj
 obtain ⟨i, _, rfl⟩ := hj
 rw [Nat.testBit_lt_two_pow (Nat.lt_of_lt_of_le h (Nat.pow_le_pow_right (by decide) (by omega)))]
 decide
theorem L_step (X k : Nat) : L X (64 * (k + 1)) = L X (64 * k) ++ (L (word X k) 64).map (64 * k + ·) := by
 unfold L
 rw [show 64 * (k + 1) = 64 * k + 64 by omega, List.range_add, List.filter_append, List.filter_map]
 congr 2
 apply List.filter_congr
 intro j hj
 rw [word_bit]
 have : j < 64 := by simpa using hj
 simp [this]
theorem low_bits (y : Nat) (h0 : y ≠ 0) (h : y < 2 ^ 64) : ∃ c, Lib.ctz 64 y = c ∧ c < 64 ∧ y.testBit c = true ∧ (∀ j, j < c → y.testBit j = false) ∧ y &&& (y - 1) = clr y c := by
 obtain ⟨m, hm, hk⟩ := Lib.ctzFrom_spec 64 y (by omega) h
 have e : Lib.ctz 64 y = Lib.ctzFrom 64 y := by simp [Lib.ctz, h0]
 refine ⟨Lib.ctzFrom 64 y, e, hk, ?_⟩
 generalize Lib.ctzFrom 64 y = c at *
 have hy : ∀ j, y.testBit j = if j < c then false else (2 * m + 1).testBit (j - c) := by
  intro j
  have := Nat.testBit_two_pow_mul_add (2 * m + 1) (b := 0) (i := c) (Nat.two_pow_pos c) j
  rw [Nat.add_zero, ← hm] at this
  rw [this]; simp
 have hy1 : y - 1 = 2 ^ c * (2 * m) + (2 ^ c - 1) := by
  have hp := Nat.two_pow_pos c
  have : 2 ^ c * (2 * m + 1) = 2 ^ c * (2 * m) + 2 ^ c := by rw [Nat.mul_add, Nat.mul_one]
  omega
 have hp : 2 ^ c - 1 < 2 ^ c := by have := Nat.two_pow_pos c; omega
 refine ⟨?_, ?_, ?_⟩
 ·rw [hy, if_neg (by omega), Nat.sub_self, Nat.testBit_zero]; simp
 ·intro j hj; rw [hy, if_pos hj]
 ·apply Nat.eq_of_testBit_eq; intro j
  rw [Nat.testBit_and, clr_bit, hy1, Nat.testBit_two_pow_mul_add _ hp, hy]
  by_cases hj : j < c
  ·simp [hj]
  ·rw [if_neg hj, if_neg hj]
   by_cases e2 : j = c
   ·subst e2; simp
   ·obtain ⟨i, rfl⟩ : ∃ i, j = c + (i + 1) := ⟨j - c - 1, by omega⟩
    rw [show c + (i + 1) - c = i + 1 by omega, Nat.testBit_succ, Nat.testBit_succ]
    have d1 : (2 * m + 1) / 2 = m := by omega
    have d2 : 2 * m / 2 = m := by omega
    rw [d1, d2]
    simp
theorem L_low (y c n : Nat) (hc : c < n) (h1 : y.testBit c = true) (h2 : ∀ j, j < c → y.testBit j = false) : L y n = c :: L (clr y c) n := by
 obtain ⟨d, rfl⟩ : ∃ d, n = c + 1 + d := ⟨n - c - 1, by omega⟩
 unfold L
 rw [List.range_add, List.range_succ, List.filter_append, List.filter_append, List.filter_append, List.filter_append]
 have a1 : (List.range c).filter y.testBit = [] := by
  rw [List.filter_eq_nil_iff]; intro j hj; rw [h2 j (by simpa using hj)]; decide
 have a2 : (List.range c).filter (clr y c).testBit = [] := by
  rw [List.filter_eq_nil_iff]; intro j hj; rw [clr_bit, h2 j (by simpa using hj)]; simp
 have a3 : ([c] : List Nat).filter y.testBit = [c] := by simp [h1]
 have a4 : ([c] : List Nat).filter (clr y c).testBit = [] := by simp [clr_bit]
 have a5 : ((List.range d).map (c + 1 + ·)).filter (clr y c).testBit = ((List.range d).map (c + 1 + ·)).filter y.testBit := by
  apply List.filter_congr
  intro j hj
  simp only [List.mem_map, List.mem_range] at hj
  obtain ⟨i, _, rfl⟩ := hj
  rw [clr_bit]
  have : c + 1 + i ≠ c := by omega
  simp [this]
 rw [a1, a2, a3, a4, a5]; rfl
theorem L_zero (n : Nat) : L 0 n = [] := by unfold L; rw [List.filter_eq_nil_iff]; intro j _; simp
/- OnesCount64 -/
def s3 (x : Nat) : Nat := (x / 16 + x) &&& 1085102592571150095
def m8 (b : Nat) : Nat → Nat
 | 0 => 0
 | k + 1 => b + 256 * m8 b k
def g1 (c : Nat) : Nat := (c / 2 &&& 85) + (c &&& 85)
def g2 (c : Nat) : Nat := (c / 4 &&& 51) + (c &&& 51)
end VecM
end Go.Proofs.YtmncpgfdpcckpaaGreatDoor
namespace Go.Proofs.YtmncpgfdpcckpaaGreatDoor.Vc
open Go.RowKit
open VecM
def mw (n : Nat) : Nat := (n + 63) / 64
def VecAt (W : World) (g h n X : Nat) : Prop :=
 n ≤ 256 ∧ X < 2 ^ n ∧ g ≠ h ∧ ∃ cap cs, W.heap[g]? = some (.cells #[.int .i64 (n : Int), .slice (some ⟨h, 0, none⟩) (mw n) cap] 189 (0, 0)) ∧
  W.heap[h]? = some (.cells cs 137 (0, 0)) ∧ mw n ≤ cap ∧ cap ≤ 9223372036854775807 ∧ mw n ≤ cs.size ∧ ∀ k, k < mw n → cs[k]? = some (.int .u64 (word X k : Int))
section
variable {W W' : World} {g h n X : Nat}
theorem VecAt.lt (v : VecAt W g h n X) : g < W.heap.size ∧ h < W.heap.size := by
 obtain ⟨_, _, _, cap, cs, h1, h2, _⟩ := v
 exact ⟨(Array.getElem?_eq_some_iff.1 h1).1, (Array.getElem?_eq_some_iff.1 h2).1⟩
theorem VecAt.keep (v : VecAt W g h n X) (h1 : W'.heap[g]? = W.heap[g]?) (h2 : W'.heap[h]? = W.heap[h]?) : VecAt W' g h n X := by
 obtain ⟨a, b, c, cap, cs, e1, e2, r⟩ := v
 exact ⟨a, b, c, cap, cs, h1.trans e1, h2.trans e2, r⟩
theorem VecAt.below (v : VecAt W g h n X) (hb : Below W.heap.size W W') : VecAt W' g h n X := v.keep (hb.block g v.lt.1) (hb.block h v.lt.2)
theorem VecAt.grown (v : VecAt W g h n X) {r : Nat} (hg : W.grownBy W' (some r)) (h1 : r ≠ g) (h2 : r ≠ h) : VecAt W' g h n X :=
 v.keep (hg.block g v.lt.1 (fun e => h1 (Option.some.inj e.symm ▸ rfl))) (hg.block h v.lt.2 (fun e => h2 (Option.some.inj e.symm ▸ rfl)))
theorem VecAt.drewN (v : VecAt W g h n X) (k : Nat) : VecAt (W.drewN k) g h n X := v
theorem VecAt.cells (v : VecAt W g h n X) : ∃ cap, mw n ≤ cap ∧ cap ≤ 9223372036854775807 ∧ W.cell? ⟨g, 0, none⟩ = some (.int .i64 (n : Int)) ∧ W.cell? ⟨g, 1, none⟩ = some (.slice (some ⟨h, 0, none⟩) (mw n) cap) := by
 obtain ⟨_, _, _, cap, cs, h1, h2, h3, h4, _⟩ := v
 exact ⟨cap, h3, h4, by rw [cell_of_row W g 0 _ _ _ h1]; rfl, by rw [cell_of_row W g 1 _ _ _ h1]; rfl⟩
theorem VecAt.at_ (v : VecAt W g h n X) {k : Nat} (hk : k < mw n) : W.cell? ⟨h, k, none⟩ = some (.int .u64 (word X k : Int)) := by
 obtain ⟨_, _, _, cap, cs, _, h2, _, _, _, hc⟩ := v
 rw [cell_of_row W h k cs _ (0, 0) h2]; exact hc k hk
theorem VecAt.frozen (v : VecAt W g h n X) (k : Nat) : W.frozen? ⟨h, k, none⟩ = false := by
 obtain ⟨_, _, _, cap, cs, _, h2, _⟩ := v
 exact frozen_of_row W h k cs _ h2
theorem grown_set1 (W : World) (g k : Nat) (v : Value) : W.grownBy (W.setCell ⟨g, k, none⟩ v) (some g) :=
 ⟨rfl, rfl, rfl, by simp, fun j _ hj => heap_setCell_other W ⟨g, k, none⟩ j v (fun e => hj (by simp [e]))⟩
theorem VecAt.store (v : VecAt W g h n X) {k Y : Nat} {u : Int} (hk : k < mw n) (hY : Y < 2 ^ n) (hu : u = (word Y k : Int)) (ho : ∀ j, j < mw n → j ≠ k → word Y j = word X j) : VecAt (W.setCell ⟨h, k, none⟩ (.int .u64 u)) g h n Y := by
 obtain ⟨a, b, c, cap, cs, e1, e2, e3, e4, e5, e6⟩ := v
 refine ⟨a, hY, c, cap, cs.setIfInBounds k (.int .u64 u), ?_, heap_setCell_same W h k cs _ _ e2, e3, e4, by simpa using e5, fun j hj => ?_⟩
 ·rw [heap_setCell_other W ⟨h, k, none⟩ g _ c]; exact e1
 ·rw [Array.getElem?_setIfInBounds]
  by_cases e : k = j
  ·subst e; rw [if_pos rfl, if_pos (by omega), hu]
  ·rw [if_neg e, ho j hj (fun e' => e e'.symm)]; exact e6 j hj
end
theorem mw_le {n : Nat} (h : n ≤ 256) : mw n ≤ 4 := by unfold mw; omega
theorem mw_div {n i : Nat} (h : i < n) : i / 64 < mw n := by unfold mw; omega
theorem word_zero (k : Nat) : word 0 k = 0 := by unfold word; rw [Nat.zero_div, Nat.zero_mod]
def NewOk (n : Nat) (w : World) (e : Ending) (w' : World) : Prop :=
 ∃ g h, e = .returned (.pointer (some ⟨g, 0, none⟩)) ∧ w.heap.size ≤ g ∧ w.heap.size ≤ h ∧ Hid (VecAt w' g h n 0) ∧ Hid (Below w.heap.size w w')
theorem infoU64 : (Tryz.prog.info? 137).map (fun i => (i.zero, i.size, i.bytes)) = some (some (.int .u64 0), 1, 8) := by kernel_rfl
theorem made_u64 (m : Nat) (hm : m ≤ 4) : ∃ C : Array Value, C.size = m ∧ (∀ k, k < m → C[k]? = some (.int .u64 0)) ∧ ∀ w : World, (Instr.makeSlice 187 (.int .i64 (m : Int)) (.int .i64 (m : Int))).run Tryz.prog w = .ok (.slice (some ⟨w.heap.size, 0, none⟩) m m) (w.alloc (.cells C 137)) := by
 obtain ⟨i0, hi, hz0, hz1, hz2⟩ := info_parts infoU64
 have h := fun w => run_make (P := Tryz.prog) w 187 137 i0 (.int .u64 0) Tryz.underlying187 hi hz0 .i64 .i64 (m : Int) (m : Int) (by omega) (by omega) (by rw [hz2]; omega) (by omega)
 rw [hz1] at h
 refine ⟨madeCells (Value.int .u64 0).cells m, ?_, ?_, fun w => by simpa using h w⟩
 ·exact size_madeCells _ _
 ·intro k hk
  have e : (madeCells (Value.int .u64 0).cells m).toList = List.replicate m (.int .u64 0) := toList_madeCells_one (.int .u64 0) m
  rw [← Array.getElem?_toList, e, List.getElem?_replicate, if_pos hk]
set_option maxHeartbeats 800000 in
theorem new_ok (n : Nat) (w : World) (h : n ≤ 256) : Calls Tryz.prog 138 #[.int .i64 (n : Int)] w (NewOk n w) := by
 have h1 : ¬ 256 < (n : Int) := by omega
 have e : ((n : Int) + 63) / 64 = (mw n : Int) := by unfold mw; omega
 have HE := Lib.hid e
 obtain ⟨C, hC1, hC2, hmk⟩ := made_u64 (mw n) (mw_le h)
 have HV : Hid (VecAt ((w.alloc (.cells C 137)).alloc (.cells #[.int .i64 (n : Int), .slice (some ⟨w.heap.size, 0, none⟩) (mw n) (mw n)] 189)) (w.heap.size + 1) w.heap.size n 0) := by
  have hm := mw_le h
  refine ⟨h, Nat.two_pow_pos n, by omega, mw n, C, ?_, ?_, Nat.le_refl _, by omega, by omega, fun k hk => ?_⟩
  ·have := heap_alloc_new (w.alloc (.cells C 137)) (.cells #[.int .i64 (n : Int), .slice (some ⟨w.heap.size, 0, none⟩) (mw n) (mw n)] 189)
   simpa using this
  ·have hb : Below (w.alloc (.cells C 137)).heap.size (w.alloc (.cells C 137)) ((w.alloc (.cells C 137)).alloc (.cells #[.int .i64 (n : Int), .slice (some ⟨w.heap.size, 0, none⟩) (mw n) (mw n)] 189)) := (Below.refl _ _).alloc (Nat.le_refl _) _
   rw [hb.block w.heap.size (by simp)]
   exact heap_alloc_new w _
  ·rw [hC2 k hk, word_zero]; rfl
 clear e h hC1 hC2
 go_enter Tryz.func138, Tryz.ntmps138
 go_wp2_with (rw [HE.out])
 go_ret
 exact ⟨_, _, rfl, by omega, Nat.le_refl _, HV, ((Below.refl _ _).alloc (Nat.le_refl _) _).alloc (by simp) _⟩
theorem within_nil (i : Int) (w : World) : Calls Tryz.prog 136 #[.pointer none, .int .i64 i] w fun e w' => e = .returned (.bool false) ∧ w = w' := by
 go_enter Tryz.func136, Tryz.ntmps136
 go_wp2_with fail
 go_ret
 exact ⟨rfl, rfl⟩
theorem within_out (g h n X : Nat) (i : Int) (w : World) (v : VecAt w g h n X) (hi : i < 0 ∨ (n : Int) ≤ i) : Calls Tryz.prog 136 #[.pointer (some ⟨g, 0, none⟩), .int .i64 i] w fun e w' => e = .returned (.bool false) ∧ w = w' := by
 obtain ⟨cap, _, _, c0, _⟩ := v.cells
 clear v
 rcases hi with hi | hi
 ·go_enter Tryz.func136, Tryz.ntmps136
  go_wp2_with fail
  go_ret
  exact ⟨rfl, rfl⟩
 ·have h0 : 0 ≤ i := by omega
  have hd : decide (i < (n : Int)) = false := by simpa using hi
  go_enter Tryz.func136, Tryz.ntmps136
  go_wp2_with fail
  go_ret
  exact ⟨rfl, rfl⟩
theorem within_in (g h n X i : Nat) (w : World) (v : VecAt w g h n X) (hi : i < n) : Calls Tryz.prog 136 #[.pointer (some ⟨g, 0, none⟩), .int .i64 (i : Int)] w fun e w' => e = .returned (.bool true) ∧ w = w' := by
 obtain ⟨cap, _, _, c0, _⟩ := v.cells
 clear v
 have h0 : (i : Int) < (n : Int) := by omega
 go_enter Tryz.func136, Tryz.ntmps136
 go_wp2_with fail
 go_ret
 exact ⟨rfl, rfl⟩
end Go.Proofs.YtmncpgfdpcckpaaGreatDoor.Vc
namespace Go.Proofs.YtmncpgfdpcckpaaGreatDoor.Vc
open Go.RowKit
open VecM
theorem cast_shr (x k : Nat) : (x : Int) / 2 ^ k = ((x / 2 ^ k : Nat) : Int) := by
 rw [Int.natCast_ediv, Int.natCast_pow]; rfl
theorem and_one_u64 (x k : Nat) (h : x < 2 ^ 64) : bits .and .u64 ((x : Int) / 2 ^ k) 1 = ((x / 2 ^ k % 2 : Nat) : Int) := by
 have h2 : x / 2 ^ k < 18446744073709551616 := Nat.lt_of_le_of_lt (Nat.div_le_self _ _) h
 rw [cast_shr]
 have := u64_and_nat (x / 2 ^ k) 1 h2 (by decide)
 rw [Nat.and_one_is_mod] at this
 exact this
theorem len_any (g h n X : Nat) (w : World) (v : VecAt w g h n X) : Calls Tryz.prog 102 #[.pointer (some ⟨g, 0, none⟩)] w fun e w' => e = .returned (.int .i64 (n : Int)) ∧ w = w' := by
 obtain ⟨cap, _, _, c0, _⟩ := v.cells
 clear v
 go_enter Tryz.func102, Tryz.ntmps102
 go_wp2_with fail
 go_ret
 exact ⟨rfl, rfl⟩
theorem has_no (p : Option Addr) (i : Int) (w : World) (hw : Calls Tryz.prog 136 #[.pointer p, .int .i64 i] w fun e w' => e = .returned (.bool false) ∧ w = w') : Calls Tryz.prog 105 #[.pointer p, .int .i64 i] w fun e w' => e = .returned (.bool false) ∧ w = w' := by
 have HW := Lib.hid hw
 clear hw
 go_enter Tryz.func105, Tryz.ntmps105
 go_wp2_with fail
 refine HW.out.mono ?_
 rintro e w' ⟨rfl, rfl⟩
 go_wp2_with fail
 go_ret
 exact ⟨rfl, rfl⟩
set_option maxHeartbeats 800000 in
theorem has_in (g h n X i : Nat) (w : World) (v : VecAt w g h n X) (hi : i < n) : Calls Tryz.prog 105 #[.pointer (some ⟨g, 0, none⟩), .int .i64 (i : Int)] w fun e w' => e = .returned (.bool (X.testBit i)) ∧ w = w' := by
 have HW := Lib.hid (within_in g h n X i w v hi)
 obtain ⟨cap, _, _, c0, c1⟩ := v.cells
 have hw := v.at_ (mw_div hi)
 have hlt := word_lt X (i / 64)
 have hb := has_word X i
 have hm : i / 64 < mw n := mw_div hi
 have hi2 : i < 256 := by have := v.1; omega
 generalize word X (i / 64) = x at *
 have HB := Lib.hid hb
 clear v hb
 go_enter Tryz.func105, Tryz.ntmps105
 go_wp2_with fail
 refine HW.out.mono ?_
 rintro e w' ⟨rfl, rfl⟩
 go_wp2_with fail
 go_ret
 refine ⟨?_, rfl⟩
 show Ending.returned (.bool (bits BinOp.and IntKind.u64 ((x : Int) / 2 ^ (i % 64)) 1 == 1)) = _
 rw [and_one_u64 _ _ hlt, HB.out]
 cases X.testBit i <;> rfl
def SetOk (g h n Y : Nat) (b : Bool) (w : World) (e : Ending) (w' : World) : Prop := e = .returned (.bool b) ∧ Hid (VecAt w' g h n Y) ∧ Hid (w.grownBy w' (some h))
theorem set_no (p : Option Addr) (i : Int) (on : Bool) (w : World) (hw : Calls Tryz.prog 136 #[.pointer p, .int .i64 i] w fun e w' => e = .returned (.bool false) ∧ w = w') : Calls Tryz.prog 133 #[.pointer p, .int .i64 i, .bool on] w fun e w' => e = .returned (.bool false) ∧ w = w' := by
 have HW := Lib.hid hw
 clear hw
 go_enter Tryz.func133, Tryz.ntmps133
 go_wp2_with fail
 refine HW.out.mono ?_
 rintro e w' ⟨rfl, rfl⟩
 go_wp2_with fail
 go_ret
 exact ⟨rfl, rfl⟩
theorem wrap_pow (k : Nat) (h : k < 64) : IntKind.u64.wrap ((2 : Int) ^ k) = ((2 ^ k : Nat) : Int) := by
 have h2 : 2 ^ k < 2 ^ 64 := Nat.pow_lt_pow_right (by decide) h
 rw [IntKind.wrap_u64, show (2 : Int) ^ k = ((2 ^ k : Nat) : Int) by rw [Int.natCast_pow]; rfl]
 generalize 2 ^ k = p at *
 omega
theorem or_pow (x k : Nat) (hx : x < 2 ^ 64) (h : k < 64) : bits .or .u64 (x : Int) (IntKind.u64.wrap (2 ^ k)) = ((x ||| 2 ^ k : Nat) : Int) := by
 rw [wrap_pow k h, u64_or_nat _ _ hx (Nat.pow_lt_pow_right (by decide) h)]
theorem andNot_pow (x k : Nat) (hx : x < 2 ^ 64) (h : k < 64) : bits .andNot .u64 (x : Int) (IntKind.u64.wrap (2 ^ k)) = ((clr x k : Nat) : Int) := by
 have hp : 2 ^ k < 2 ^ 64 := Nat.pow_lt_pow_right (by decide) h
 rw [wrap_pow k h, u64_andNot_nat _ _ hx hp]
 congr 1
 apply Nat.eq_of_testBit_eq; intro j
 rw [Nat.testBit_and, clr_bit, show 18446744073709551615 - 2 ^ k = 2 ^ 64 - (2 ^ k + 1) by omega, Nat.testBit_two_pow_sub_succ hp, Nat.testBit_two_pow]
 by_cases hj : j < 64
 ·by_cases e : j = k
  ·subst e; simp
  ·have e2 : ¬ k = j := fun h => e h.symm
   simp [hj, e, e2]
 ·rw [Nat.testBit_lt_two_pow (Nat.lt_of_lt_of_le hx (Nat.pow_le_pow_right (by decide) (by omega)))]; simp
def put (X i : Nat) (on : Bool) : Nat := if on then X ||| 2 ^ i else clr X i
theorem put_lt {X n i : Nat} (on : Bool) (h : X < 2 ^ n) (hi : i < n) : put X i on < 2 ^ n := by
 unfold put; split
 ·exact set_lt h hi
 ·exact clr_lt h
set_option maxHeartbeats 800000 in
theorem set_in (g h n X i : Nat) (on : Bool) (w : World) (v : VecAt w g h n X) (hi : i < n) : Calls Tryz.prog 133 #[.pointer (some ⟨g, 0, none⟩), .int .i64 (i : Int), .bool on] w (SetOk g h n (put X i on) true w) := by
 have HW := Lib.hid (within_in g h n X i w v hi)
 obtain ⟨cap, _, _, c0, c1⟩ := v.cells
 have hw := v.at_ (mw_div hi)
 have hf := v.frozen (i / 64)
 have hlt := word_lt X (i / 64)
 have hm : i / 64 < mw n := mw_div hi
 have hi2 : i < 256 := by have := v.1; omega
 have HV : Hid (∀ u, u = (word (put X i on) (i / 64) : Int) → VecAt (w.setCell ⟨h, i / 64, none⟩ (.int .u64 u)) g h n (put X i on)) := fun u hu => v.store hm (put_lt on v.2.1 hi) hu fun j _ hj => by
  unfold put; split
  ·rw [word_set, if_neg hj]
  ·rw [word_clr, if_neg hj]
 have HP : Hid (word (put X i on) (i / 64) = if on then word X (i / 64) ||| 2 ^ (i % 64) else clr (word X (i / 64)) (i % 64)) := by
  show _ = _
  unfold put; split
  ·rw [word_set, if_pos rfl]
  ·rw [word_clr, if_pos rfl]
 generalize word X (i / 64) = x at *
 clear v
 cases on with
 | true =>
  go_enter Tryz.func133, Tryz.ntmps133
  go_wp2_with fail
  refine HW.out.mono ?_
  rintro e w' ⟨rfl, rfl⟩
  go_wp2_with fail
  go_ret
  refine ⟨rfl, HV.out _ ?_, grown_set1 _ _ _ _⟩
  rw [HP.out, or_pow _ _ hlt (by omega)]; simp
 | false =>
  go_enter Tryz.func133, Tryz.ntmps133
  go_wp2_with fail
  refine HW.out.mono ?_
  rintro e w' ⟨rfl, rfl⟩
  go_wp2_with fail
  go_ret
  refine ⟨rfl, HV.out _ ?_, grown_set1 _ _ _ _⟩
  rw [HP.out, andNot_pow _ _ hlt (by omega)]; simp
def nv (l : List Int) : List Value := l.map fun x => .int .i64 x
theorem nv_length (l : List Int) : (nv l).length = l.length := by simp [nv]
theorem nv_get (l : List Int) (k : Nat) (h : k < l.length) : (nv l)[k]? = some (.int .i64 l[k]) := by simp [nv, h]
theorem nv_append (l m : List Int) : nv (l ++ m) = nv l ++ nv m := by simp [nv]
def setOne (n X : Nat) (z : Int) : Nat := if 0 ≤ z ∧ z < (n : Int) then X ||| 2 ^ z.toNat else X
def ofL (n : Nat) (l : List Int) : Nat := l.foldl (setOne n) 0
theorem ofL_snoc (n : Nat) (l : List Int) (z : Int) : ofL n (l ++ [z]) = setOne n (ofL n l) z := by simp [ofL]
theorem ofL_take (n : Nat) (l : List Int) (k : Nat) (h : k < l.length) : ofL n (l.take (k + 1)) = setOne n (ofL n (l.take k)) l[k] := by
 rw [List.take_succ_eq_append_getElem h, ofL_snoc]
def OfOk (n X : Nat) (w : World) (e : Ending) (w' : World) : Prop :=
 ∃ g h, e = .returned (.pointer (some ⟨g, 0, none⟩)) ∧ w.heap.size ≤ g ∧ w.heap.size ≤ h ∧ Hid (VecAt w' g h n X) ∧ Hid (Below w.heap.size w w')
theorem set_one (g h n X : Nat) (z : Int) (w : World) (v : VecAt w g h n X) : Calls Tryz.prog 133 #[.pointer (some ⟨g, 0, none⟩), .int .i64 z, .bool true] w fun e w' => ∃ b, e = .returned (.bool b) ∧ Hid (VecAt w' g h n (setOne n X z)) ∧ Hid (w.grownBy w' (some h)) := by
 by_cases hz : 0 ≤ z ∧ z < (n : Int)
 ·obtain ⟨i, rfl⟩ : ∃ i : Nat, z = (i : Int) := ⟨z.toNat, by omega⟩
  refine (set_in g h n X i true w v (by omega)).mono ?_
  rintro e w' ⟨rfl, h1, h2⟩
  refine ⟨true, rfl, ?_, h2⟩
  rw [show setOne n X (i : Int) = put X i true by unfold setOne put; rw [if_pos hz, if_pos rfl, Int.toNat_natCast]]
  exact h1
 ·refine (set_no _ z true w (within_out g h n X z w v (by omega))).mono ?_
  rintro e w' ⟨rfl, rfl⟩
  refine ⟨false, rfl, ?_, ⟨rfl, rfl, rfl, Nat.le_refl _, fun _ _ _ => rfl⟩⟩
  rw [show setOne n X z = X by unfold setOne; rw [if_neg hz]]
  exact v
set_option maxHeartbeats 1600000 in
theorem of_any (n : Nat) (A : Option Addr) (m c B : Nat) (zs : List Int) (w : World) (hr : Row w B A m (nv zs)) (hB : B ≤ w.heap.size) (hm : m ≤ 4611686018427387904) (h : n ≤ 256) : Calls Tryz.prog 107 #[.int .i64 (n : Int), .slice A m c] w (OfOk n (ofL n zs) w) := by
 have HR := Lib.hid hr
 have HL := Lib.hid (nv_length zs ▸ hr.1)
 clear hr
 go_enter Tryz.func107, Tryz.ntmps107
 go_wp2_with fail
 refine (new_ok n w h).mono ?_
 rintro e w1 ⟨g, h1, rfl, hg, hh, hv, hb⟩
 go_wp2_with fail
 go_loopw [12] (fun i wr => ∃ k : Nat, k ≤ m ∧ i = .int .i64 k ∧ Hid (VecAt wr g h1 n (ofL n (zs.take k))) ∧ Hid (Below w.heap.size w wr)) (fun i _ => m - (intOf i).toNat)
 case atStart => exact ⟨0, by omega, rfl, hv, hb⟩
 case round =>
  obtain ⟨k, hk, rfl, hvk, hbk⟩ := hrel
  by_cases hlt : k < m
  ·have hkl : k < zs.length := by rw [HL.out]; exact hlt
   obtain ⟨b, o, rfl, hbB, hc⟩ := (HR.out.below (hbk.out.mono hB)).cellAt hlt (nv_get zs k hkl)
   have HT := Lib.hid (ofL_take n zs k hkl)
   generalize zs[k]'hkl = z at *
   go_wp2_with fail
   refine (set_one g h1 n _ z wr hvk.out).mono ?_
   rintro e w2 ⟨b2, rfl, hv2, hg2⟩
   have hb2 : Hid (Below w.heap.size w w2) := hbk.out.grown hg2.out hbk.out.size (by intro r hr; injection hr with hr; omega)
   rw [← HT.out] at hv2
   clear hg2
   go_wp2_with fail
   go_roundw
   case rel => exact ⟨k + 1, by omega, by go_num, hv2, hb2⟩
   case measure => simp [intOf]; omega
  ·obtain rfl : m = k := by omega
   rw [List.take_of_length_le (by rw [HL.out]; omega)] at hvk
   go_wp2_with fail
   go_ret
   exact ⟨g, h1, rfl, hg, hh, hvk, hbk⟩
end Go.Proofs.YtmncpgfdpcckpaaGreatDoor.Vc
namespace Go.Proofs.YtmncpgfdpcckpaaGreatDoor.Vc
open Go.RowKit
open VecM
def DTab (W : World) : Prop := 1 < W.heap.size ∧ ∀ j, j < 64 → W.cell? ⟨1, j, none⟩ = some (.int .u8 (Lib.deBruijn64tab.getD j 0 : Nat))
theorem DTab.below {W W' : World} {B : Nat} (h : DTab W) (hb : Below B W W') (hB : 1 < B) : DTab W' :=
 ⟨by have := h.1; have := hb.size; omega, fun j hj => by rw [hb.cell (p := ⟨1, j, none⟩) hB]; exact h.2 j hj⟩
theorem DTab.grow {W W' : World} (h : DTab W) (hb : Below W.heap.size W W') : DTab W' := h.below hb h.1
theorem tz_key (x a : Nat) (hx : x < 18446744073709551616) (hx0 : x ≠ 0) (hlow : x &&& (18446744073709551616 - x) = a) :
  IntKind.u64.wrap (bits BinOp.and IntKind.u64 (x : Int) (IntKind.u64.wrap (-(x : Int))) * 285870213051353865) / 288230376151711744 = ((a * 285870213051353865 % 18446744073709551616 / 288230376151711744 : Nat) : Int) := by
 have e1 : IntKind.u64.wrap (-(x : Int)) = ((18446744073709551616 - x : Nat) : Int) := by rw [IntKind.wrap_u64]; omega
 rw [e1, u64_and_nat x _ hx (by omega), hlow, IntKind.wrap_u64]
 omega
set_option maxHeartbeats 1000000 in
theorem tz_core (x k idx : Nat) (w : World) (hx0 : ((x : Int) == 0) = false)
  (key : IntKind.u64.wrap (bits BinOp.and IntKind.u64 (x : Int) (IntKind.u64.wrap (-(x : Int))) * 285870213051353865) / 288230376151711744 = (idx : Int))
  (hi : idx < 64) (hk : k < 64) (hcell : w.cell? ⟨1, idx, none⟩ = some (.int .u8 k)) :
  Calls Tryz.prog 135 #[.int .u64 x] w fun e w' => e = .returned (.int .i64 k) ∧ w = w' := by
 go_enter Tryz.func135, Tryz.ntmps135
 go_wp2_with (simp only [key])
 go_ret
 exact ⟨rfl, rfl⟩
theorem tz_any (x : Nat) (w : World) (ht : DTab w) (hx : x < 2 ^ 64) (h0 : x ≠ 0) : Calls Tryz.prog 135 #[.int .u64 (x : Int)] w fun e w' => e = .returned (.int .i64 (Lib.ctz 64 x : Int)) ∧ w = w' := by
 obtain ⟨hlow, hk⟩ := Lib.lowest_bit 64 x h0 hx
 obtain ⟨hi, htab⟩ := Lib.deBruijn64_at _ hk
 have hcell := ht.2 _ hi
 rw [htab] at hcell
 exact tz_core x _ _ w (by simp; omega) (tz_key x _ hx h0 hlow) hi hk hcell
end Go.Proofs.YtmncpgfdpcckpaaGreatDoor.Vc
namespace Go.Proofs.YtmncpgfdpcckpaaGreatDoor.Vc
open Go.RowKit
open VecM
def Ls (X : Nat) : List Nat := L X 256
def firstI : List Nat → Int
 | [] => -1
 | c :: _ => (c : Int)
theorem Ls_words {X n : Nat} (hX : X < 2 ^ n) (hn : n ≤ 256) : L X (64 * mw n) = Ls X := by
 unfold Ls mw
 rw [L_more hX (by omega : n ≤ 64 * ((n + 63) / 64)), L_more hX hn]
theorem L_app (X a b : Nat) : ∃ r, L X (a + b) = L X a ++ r := by
 unfold L
 rw [List.range_add, List.filter_append]
 exact ⟨_, rfl⟩
theorem first_at {X k : Nat} (hk : k < 4) (h : L X (64 * k) = []) (h0 : word X k ≠ 0) : firstI (Ls X) = ((64 * k + Lib.ctz 64 (word X k) : Nat) : Int) := by
 obtain ⟨c, hc, hlt, h1, h2, h3⟩ := low_bits (word X k) h0 (word_lt X k)
 obtain ⟨r, hr⟩ := L_app X (64 * (k + 1)) (256 - 64 * (k + 1))
 rw [show 64 * (k + 1) + (256 - 64 * (k + 1)) = 256 by omega, L_step, h, L_low _ c 64 hlt h1 h2] at hr
 unfold Ls
 rw [hr, hc]; rfl
theorem step_nil {X k : Nat} (h : L X (64 * k) = []) (h0 : word X k = 0) : L X (64 * (k + 1)) = [] := by
 rw [L_step, h, h0, L_zero]; rfl
theorem L_none (X : Nat) : L X (64 * 0) = [] := rfl
set_option maxHeartbeats 1600000 in
theorem first_any (g h n X : Nat) (w : World) (v : VecAt w g h n X) (ht : DTab w) : Calls Tryz.prog 104 #[.pointer (some ⟨g, 0, none⟩)] w fun e w' => e = .returned (.int .i64 (firstI (Ls X))) ∧ w = w' := by
 obtain ⟨cap, h1, h2, c0, c1⟩ := v.cells
 have hm := mw_le v.1
 have HV := Lib.hid v
 have HT := Lib.hid ht
 clear v ht
 go_enter Tryz.func104, Tryz.ntmps104
 go_wp2_with fail
 go_loop [12] (fun i => ∃ k : Nat, k ≤ mw n ∧ i = .int .i64 k ∧ Hid (L X (64 * k) = [])) (fun i => mw n - (intOf i).toNat)
 case atStart => exact ⟨0, by omega, rfl, L_none X⟩
 case round =>
  obtain ⟨k, hk, rfl, hL⟩ := hrel
  by_cases hlt : k < mw n
  ·have hc := HV.out.at_ hlt
   have hw := word_lt X k
   by_cases h0 : word X k = 0
   ·have HN := Lib.hid (step_nil hL.out h0)
    rw [h0] at hc
    clear h0 hw hL
    go_wp2_with fail
    go_round
    case rel => exact ⟨k + 1, by omega, by go_num, HN⟩
    case measure => simp [intOf]; omega
   ·have HF := Lib.hid (first_at (by omega) hL.out h0)
    have HZ := Lib.hid (tz_any (word X k) w HT.out hw h0)
    have hcz : Lib.ctz 64 (word X k) < 64 := (Lib.lowest_bit 64 _ h0 hw).2
    generalize Lib.ctz 64 (word X k) = z at *
    have hne : ((word X k : Int) != 0) = true := by simp; omega
    generalize word X k = x at *
    clear h0 hw hL
    go_wp2_with fail
    refine HZ.out.mono ?_
    rintro e w' ⟨rfl, rfl⟩
    go_wp2_with fail
    go_ret
    refine ⟨?_, rfl⟩
    rw [HF.out]
    show Ending.returned (.int .i64 _) = _
    congr 2
    push_cast
    omega
  ·obtain rfl : mw n = k := by omega
   have HF : Hid (firstI (Ls X) = -1) := by
    show _ = _
    rw [← Ls_words HV.out.2.1 HV.out.1, hL.out]; rfl
   clear hL
   go_wp2_with fail
   go_ret
   exact ⟨by rw [HF.out]; rfl, rfl⟩
theorem infoI64 : (Tryz.prog.info? 3).map (fun i => (i.zero, i.size, i.bytes)) = some (some (.int .i64 0), 1, 8) := by kernel_rfl
def ni (l : List Nat) : List Value := nv (l.map fun i : Nat => (i : Int))
theorem ni_append (l m : List Nat) : ni (l ++ m) = ni l ++ ni m := by simp [ni, nv]
theorem ni_one (l : List Nat) : ∀ u ∈ ni l, u.oneCell' = true := by
 intro u hu
 simp only [ni, nv, List.map_map, List.mem_map] at hu
 obtain ⟨x, _, rfl⟩ := hu
 rfl
end Go.Proofs.YtmncpgfdpcckpaaGreatDoor.Vc
namespace Go.Proofs.YtmncpgfdpcckpaaGreatDoor.Vc
open Go.RowKit
open VecM
def wv (X m : Nat) : List Value := (List.range m).map fun k => .int .u64 (word X k : Int)
theorem wv_length (X m : Nat) : (wv X m).length = m := by simp [wv]
theorem wv_get (X m k : Nat) (h : k < m) : (wv X m)[k]? = some (.int .u64 (word X k : Int)) := by simp [wv, h]
theorem wv_one (X m : Nat) : ∀ u ∈ wv X m, u.oneCell' = true := by
 intro u hu
 simp only [wv, List.mem_map] at hu
 obtain ⟨x, _, rfl⟩ := hu
 rfl
theorem VecAt.row {w : World} {g h n X : Nat} (v : VecAt w g h n X) : Row w w.heap.size (some ⟨h, 0, none⟩) (mw n) (wv X (mw n)) := by
 refine ⟨wv_length _ _, fun _ => ⟨h, 0, rfl, v.lt.2, fun j u hu => ?_⟩⟩
 have hj : j < mw n := by have := (List.getElem?_eq_some_iff.1 hu).1; rwa [wv_length] at this
 rw [wv_get _ _ _ hj] at hu
 rw [Nat.zero_add, v.at_ hj, ← hu]
def CloneOk (X m : Nat) (w : World) (e : Ending) (w' : World) : Prop :=
 ∃ h c, e = .returned (.slice (some ⟨h, 0, none⟩) m c) ∧ Hid (m ≤ c ∧ c ≤ 9223372036854775807) ∧ Hid (w'.ownsRow w.heap.size 137 1 (.slice (some ⟨h, 0, none⟩) m c) m (wv X m)) ∧ Hid (h < w'.heap.size ∧ w.heap.size ≤ h) ∧ Below w.heap.size w w'
set_option maxHeartbeats 800000 in
theorem cloneW_any (B m cap h0 X : Nat) (w : World) (hl : Row w B (some ⟨h0, 0, none⟩) m (wv X m)) (hm : m ≤ 4) (hB : B ≤ w.heap.size) :
  Calls Tryz.prog 165 #[.slice (some ⟨h0, 0, none⟩) m cap] w (CloneOk X m w) := by
 obtain ⟨i0, hi, hz0, hz1, hz2⟩ := info_parts infoU64
 have hq : ∀ (w : World) (a : Option Addr) (n c : Nat), (binOp .eql 187 (.slice a n c) (.slice none 0 0)).run Tryz.prog w = .ok (.bool a.isNone) w := fun w a n c => Lib.run_eql_slice_nil w _ _ a n c 0 0 Tryz.underlying187
 have HR := Lib.hid hl
 clear hl
 go_enter Tryz.func165, Tryz.ntmps165
 have hown0 : (w.alloc (.cells #[] 137)).ownsRow w.heap.size 137 1 (.slice (some ⟨w.heap.size, 0, none⟩) 0 0) 0 [] := own_lit (cs := #[]) rfl (Nat.le_refl _) rfl (by unfold maxLen; omega)
 have HO0 := Lib.hid hown0
 clear hown0
 go_wp2_with (at_builtin; refine wpList_app rfl (.tmp 5) (.tmp 6) 187 rfl w.heap.size 137 i0 (.int .u64 0) 8 Tryz.underlying187 hi hz0 hz1 hz2 rfl _ 0 [] rfl HO0.out B _ m cap (wv X m) rfl (HR.out.alloc hB _) (wv_one X m) (by unfold maxLen; omega) (by omega) (by simp) ?_; intro v2 w2 hown2 hg2 hat2)
 obtain ⟨A2, c2, rfl, hc2, hc3, hA2⟩ := own_slice hown2
 have hb := below_app ((Below.refl w.heap.size w).alloc (Nat.le_refl _) (.cells #[] 137)) (by simp) HO0.out (Nat.le_refl _) hg2
 rw [Nat.zero_add, List.nil_append] at hown2
 unfold maxLen at hc3
 go_ret
 cases A2 with
 | none =>
  exfalso
  rcases hat2 with h | h
  ·have h' : (none : Option Nat) = some w.heap.size := h
   cases h'
  ·have h' : (none : Option Nat) = some (w.alloc (.cells #[] 137)).heap.size := h
   cases h'
 | some a =>
  rcases hA2 with h2 | ⟨g2, h2, hg⟩
  ·cases h2
  ·injection h2 with h2
   subst h2
   have hlt : g2 < w2.heap.size := by
    rcases hown2.2 with ⟨h0, _⟩ | ⟨g3, _, _, hv, _, hg3, _⟩
    ·cases h0
    ·injection hv with e1 _ _
     injection e1 with e1
     injection e1 with e1
     subst e1
     exact (Array.getElem?_eq_some_iff.1 hg3).1
   exact ⟨g2, c2, by rw [Nat.zero_add]; rfl, ⟨by omega, by omega⟩, hown2, ⟨hlt, hg⟩, hb⟩
abbrev SCopy (w : World) (g h n cap : Nat) (W : World) : Prop :=
 Below w.heap.size w W ∧ W.cell? ⟨g, 0, none⟩ = some (.int .i64 (n : Int)) ∧ W.cell? ⟨g, 1, none⟩ = some (.slice (some ⟨h, 0, none⟩) (mw n) cap)
theorem copy_keep {w : World} {g h n cap : Nat} (hg : g < w.heap.size) (c0 : w.cell? ⟨g, 0, none⟩ = some (.int .i64 (n : Int))) (c1 : w.cell? ⟨g, 1, none⟩ = some (.slice (some ⟨h, 0, none⟩) (mw n) cap)) (W : World) (hW : Below w.heap.size w W) : SCopy w g h n cap W :=
 ⟨hW, by rw [hW.cell (p := ⟨g, 0, none⟩) hg]; exact c0, by rw [hW.cell (p := ⟨g, 1, none⟩) hg]; exact c1⟩
theorem copy_next {w W W' : World} {g h n cap : Nat} (hs : SCopy w g h n cap W) (hb : Below W.heap.size W W') : Below w.heap.size w W' := hs.1.trans (hb.mono hs.1.size)
theorem copy_below {w W : World} {g h n cap : Nat} (hs : SCopy w g h n cap W) : Below w.heap.size w W := hs.1
theorem copy_drew {w W : World} {g h n cap : Nat} (hs : SCopy w g h n cap W) : Below w.heap.size w W.drew := hs.1.drew
theorem copy_alloc {w W : World} {g h n cap : Nat} (hs : SCopy w g h n cap W) (o : Obj) : Below w.heap.size w (W.alloc o) := hs.1.alloc hs.1.size o
theorem vec_of_own {w : World} {h n X c B : Nat} (hn : n ≤ 256) (hX : X < 2 ^ n) (ho : w.ownsRow B 137 1 (.slice (some ⟨h, 0, none⟩) (mw n) c) (mw n) (wv X (mw n))) (hc : mw n ≤ c ∧ c ≤ 9223372036854775807) (hh : h < w.heap.size) :
  VecAt (w.alloc (.cells #[.int .i64 (n : Int), .slice (some ⟨h, 0, none⟩) (mw n) c] 189)) w.heap.size h n X := by
 have hb : Below w.heap.size w (w.alloc (.cells #[.int .i64 (n : Int), .slice (some ⟨h, 0, none⟩) (mw n) c] 189)) := (Below.refl _ _).alloc (Nat.le_refl _) _
 rcases ho.2 with ⟨h0, _⟩ | ⟨g, cap, cur, hv, _, hg, h1, h2, h3, h4⟩
 ·cases h0
 ·injection hv with e1 e2 e3
  injection e1 with e1
  injection e1 with e1
  subst e1 e3
  rw [Nat.mul_one] at h3 h4
  refine ⟨hn, hX, by omega, c, cur, heap_alloc_new _ _, (hb.block h hh).trans hg, hc.1, hc.2, by omega, fun k hk => ?_⟩
  have := wv_get X (mw n) k hk
  rw [← h4, List.getElem?_take_of_lt hk] at this
  simpa using this
set_option maxHeartbeats 1600000 in
theorem copy_any (g h n X : Nat) (w : World) (v : VecAt w g h n X) : Calls Tryz.prog 154 #[.pointer (some ⟨g, 0, none⟩)] w (OfOk n X w) := by
 obtain ⟨cap, _, _, c0, c1⟩ := v.cells
 have hkeep := Lib.hid (copy_keep v.lt.1 c0 c1)
 have HC := Lib.hid (fun (W : World) (hW : Below w.heap.size w W) => cloneW_any w.heap.size (mw n) cap h X W (v.row.below hW) (mw_le v.1) hW.size)
 have HV := Lib.hid v
 clear v
 go_enter Tryz.func154, Tryz.ntmps154
 go_wp2_with fail
 go_region_held3 (SCopy w g h n cap)
  (first | exact hkeep.out _ (copy_next (by assumption) (by assumption)) | exact hkeep.out _ (Below.refl _ _).drew | exact hkeep.out _ (Below.refl _ _) | exact hkeep.out _ (copy_alloc (by assumption) _) | exact hkeep.out _ (copy_drew (by assumption)))
  (first
   | (go_at_call 165; refine (HC.out _ (copy_below (by assumption))).mono ?_; rintro e w' ⟨h2, c2, rfl, hcc, hown, hsz, hbel⟩))
 have HF := Lib.hid (vec_of_own HV.out.1 HV.out.2.1 hown.out hcc.out hsz.out.1)
 have hall := copy_below (by assumption : SCopy w g h n cap (w'.alloc (.cells #[.int .i64 (n : Int), .slice (some ⟨h2, 0, none⟩) (mw n) c2] 189)))
 have hw' : w.heap.size ≤ w'.heap.size := by have := hbel.size; exact this
 clear hkeep HC c0 c1 hown hcc
 go_wp2_with fail
 go_ret
 exact ⟨w'.heap.size, h2, rfl, hw', hsz.out.2, HF, hall⟩
theorem word_mod (Y k j : Nat) : word (Y % 2 ^ (64 * k)) j = if j < k then word Y j else 0 := by
 apply Nat.eq_of_testBit_eq; intro i
 rw [word_bit, Nat.testBit_mod_two_pow]
 by_cases h : j < k
 ·rw [if_pos h, word_bit]
  by_cases hi : i < 64
  ·have : 64 * j + i < 64 * k := by omega
   simp [hi, this]
  ·simp [hi]
 ·rw [if_neg h]
  by_cases hi : i < 64
  ·have : ¬ 64 * j + i < 64 * k := by omega
   simp [this]
  ·simp [hi]
def mixX (X Y k : Nat) : Nat := X ^^^ (Y % 2 ^ (64 * k))
theorem mixX_zero (X Y : Nat) : mixX X Y 0 = X := by simp [mixX, Nat.mod_one]
theorem mixX_all {X Y n m : Nat} (hY : Y < 2 ^ n) (hm : n ≤ 64 * m) : mixX X Y m = X ^^^ Y := by
 unfold mixX; rw [Nat.mod_eq_of_lt (Nat.lt_of_lt_of_le hY (Nat.pow_le_pow_right (by decide) hm))]
theorem mixX_lt {X Y n k : Nat} (hX : X < 2 ^ n) (hY : Y < 2 ^ n) : mixX X Y k < 2 ^ n :=
 Nat.xor_lt_two_pow hX (Nat.lt_of_le_of_lt (Nat.mod_le _ _) hY)
theorem mixX_word (X Y k j : Nat) : word (mixX X Y k) j = if j < k then word X j ^^^ word Y j else word X j := by
 unfold mixX; rw [word_xor, word_mod]
 by_cases h : j < k
 ·rw [if_pos h, if_pos h]
 ·rw [if_neg h, if_neg h]; simp
def XorOk (g h n Z : Nat) (w : World) (e : Ending) (w' : World) : Prop := e = .returned (.bool true) ∧ Hid (VecAt w' g h n Z) ∧ Hid (w.grownBy w' (some h))
theorem grown_drewN (w : World) (q : Nat) (r : Option Nat) : w.grownBy (w.drewN q) r := ⟨rfl, rfl, rfl, Nat.le_refl _, fun _ _ _ => rfl⟩
set_option maxHeartbeats 1600000 in
theorem xor_any (g h n X g' h' Y : Nat) (w : World) (v : VecAt w g h n X) (u : VecAt w g' h' n Y) (hh : h ≠ h') (hg : h ≠ g') : Calls Tryz.prog 137 #[.pointer (some ⟨g, 0, none⟩), .pointer (some ⟨g', 0, none⟩)] w (XorOk g h n (X ^^^ Y) w) := by
 obtain ⟨cap, _, _, c0, c1⟩ := v.cells
 obtain ⟨cap2, _, _, d0, d1⟩ := u.cells
 have hm := mw_le v.1
 have HV := Lib.hid v
 have HU := Lib.hid u
 have HH := Lib.hid (And.intro hh hg)
 clear v u hh hg
 go_enter Tryz.func137, Tryz.ntmps137
 go_wp2_with fail
 go_quiet (fail)
 go_wp2_with fail
 clear c0 c1 d0 d1
 go_loopw [29] (fun i wr => ∃ k : Nat, k ≤ mw n ∧ i = .int .i64 k ∧ Hid (VecAt wr g h n (mixX X Y k)) ∧ Hid (VecAt wr g' h' n Y) ∧ Hid (w.grownBy wr (some h))) (fun i _ => mw n - (intOf i).toNat)
 case atStart => exact ⟨0, by omega, rfl, by rw [mixX_zero]; exact HV.out.drewN _, HU.out.drewN _, grown_drewN _ _ _⟩
 case round =>
  obtain ⟨k, hk, rfl, hv, hu, hgr⟩ := hrel
  by_cases hlt : k < mw n
  ·obtain ⟨cap3, _, _, c0, c1⟩ := hv.out.cells
   have e1 := hv.out.at_ hlt
   have e2 := hu.out.at_ hlt
   have hf := hv.out.frozen k
   rw [mixX_word, if_neg (by omega)] at e1
   have hx := word_lt X k
   have hy := word_lt Y k
   have HS : Hid (∀ u, u = ((word X k ^^^ word Y k : Nat) : Int) → VecAt (wr.setCell ⟨h, k, none⟩ (.int .u64 u)) g h n (mixX X Y (k + 1))) := fun u hu2 => hv.out.store hlt (mixX_lt HV.out.2.1 HU.out.2.1) (by rw [hu2, mixX_word, if_pos (by omega)]) fun j _ hj => by
    rw [mixX_word, mixX_word]
    by_cases h1 : j < k
    ·rw [if_pos h1, if_pos (by omega)]
    ·rw [if_neg h1, if_neg (by omega)]
   have HU2 : Hid (∀ u, VecAt (wr.setCell ⟨h, k, none⟩ u) g' h' n Y) := fun u => hu.out.grown (grown_set1 _ _ _ _) HH.out.2 HH.out.1
   have HG2 : Hid (∀ u, w.grownBy (wr.setCell ⟨h, k, none⟩ u) (some h)) := fun u => hgr.out.trans (grown_set1 _ _ _ _)
   have HX : Hid (bits BinOp.xor IntKind.u64 (word X k : Int) (word Y k : Int) = ((word X k ^^^ word Y k : Nat) : Int)) := u64_xor_nat _ _ hx hy
   generalize word X k = x at *
   generalize word Y k = y at *
   clear hv hu hgr
   go_wp2_with fail
   go_roundw
   case rel => exact ⟨k + 1, by omega, by go_num, HS.out _ HX.out, HU2.out _, HG2.out _⟩
   case measure => simp [intOf]; omega
  ·obtain rfl : mw n = k := by omega
   have HF : Hid (VecAt wr g h n (X ^^^ Y)) := by
    show VecAt _ _ _ _ _
    rw [← mixX_all (m := mw n) HU.out.2.1 (by unfold mw; omega)]; exact hv.out
   clear hv
   go_wp2_with fail
   go_ret
   exact ⟨rfl, HF, hgr⟩
end Go.Proofs.YtmncpgfdpcckpaaGreatDoor.Vc
namespace Go.Proofs.YtmncpgfdpcckpaaGreatDoor.Vc
open Go.RowKit
open VecM
def byteN (X j : Nat) : Nat := X / 2 ^ (8 * j) % 2 ^ 8
def byteU (X j : Nat) : UInt8 := UInt8.ofNat (byteN X j)
def bw (n : Nat) : Nat := (n + 7) / 8
def bl (X n : Nat) : List UInt8 := fill (bw n) (byteU X) (bw n)
end Go.Proofs.YtmncpgfdpcckpaaGreatDoor.Vc
namespace Go.Proofs.YtmncpgfdpcckpaaGreatDoor.Vc
open Go.RowKit
open VecM
structure VV where
 g : Nat
 h : Nat
 n : Nat
 X : Nat
section
variable {w0 w w' : World} {l : List VV} {g h n X i g' h' n' Y j : Nat}
theorem drew_below (w : World) (q : Nat) : Below w.heap.size w (w.drewN q) := ⟨rfl, rfl, rfl, Nat.le_refl _, fun _ _ => rfl⟩
end
theorem ofL_lt {n : Nat} (l : List Int) : ofL n l < 2 ^ n := by
 have key : ∀ (l : List Int) (X : Nat), X < 2 ^ n → l.foldl (setOne n) X < 2 ^ n := by
  intro l
  induction l with
  | nil => exact fun X h => h
  | cons z t ih =>
   intro X h
   refine ih _ ?_
   unfold setOne; split
   ·exact set_lt h (by omega)
   ·exact h
 exact key l 0 (Nat.two_pow_pos n)
end Go.Proofs.YtmncpgfdpcckpaaGreatDoor.Vc
namespace Go.Proofs.YtmncpgfdpcckpaaGreatDoor.Vc
open Go.RowKit
open VecM
theorem L_snoc (X n : Nat) : L X (n + 1) = L X n ++ (if X.testBit n then [n] else []) := by
 unfold L
 rw [List.range_succ, List.filter_append]
 congr 1
 cases h : X.testBit n <;> simp [h]
theorem set_bit (X i j : Nat) : (X ||| 2 ^ i).testBit j = (X.testBit j || decide (i = j)) := by rw [Nat.testBit_or, Nat.testBit_two_pow]
theorem L_set (X i : Nat) (h : X.testBit i = false) : ∀ n, (L (X ||| 2 ^ i) n).length = (L X n).length + if i < n then 1 else 0
 | 0 => rfl
 | n + 1 => by
  rw [L_snoc, L_snoc, List.length_append, List.length_append, L_set X i h n, set_bit]
  by_cases e : i = n
  ·subst e
   simp [h]
  ·by_cases h1 : i < n
   ·have h2 : i < n + 1 := by omega
    simp only [e, h1, h2, decide_false, Bool.or_false, if_true]; omega
   ·have h2 : ¬ i < n + 1 := by omega
    simp only [e, h1, h2, decide_false, Bool.or_false, if_false]; omega
theorem foldl_bit (n j : Nat) : ∀ (l : List Int) (X : Nat), (l.foldl (setOne n) X).testBit j = (X.testBit j || (decide (j < n) && decide ((j : Int) ∈ l)))
 | [], X => by simp
 | z :: t, X => by
  rw [List.foldl_cons, foldl_bit n j t]
  unfold setOne
  by_cases hz : 0 ≤ z ∧ z < (n : Int)
  ·rw [if_pos hz, Nat.testBit_or, Nat.testBit_two_pow]
   by_cases e : z.toNat = j
   ·have h1 : (j : Int) = z := by omega
    have h2 : j < n := by omega
    simp [e, h1, h2]
   ·have h1 : ¬ (j : Int) = z := by omega
    simp [e, h1]
  ·rw [if_neg hz]
   by_cases h2 : j < n
   ·have h1 : ¬ (j : Int) = z := by omega
    simp [h1]
   ·simp [h2]
theorem ofL_bit (n j : Nat) (l : List Int) : (ofL n l).testBit j = (decide (j < n) && decide ((j : Int) ∈ l)) := by
 unfold ofL; rw [foldl_bit]; simp
end Go.Proofs.YtmncpgfdpcckpaaGreatDoor.Vc
