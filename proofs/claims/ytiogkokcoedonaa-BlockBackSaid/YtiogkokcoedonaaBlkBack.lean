/- BlockBack: what is split is joined; pieces are as long as they should be; what is behind the image is nought. For every input, no condition. -/
import Derived.Test.YtiogkokcoedonaaRows
import Derived.Test.YtiogkokcoedonaaBlkAwake
import Derived.Test.YtiogkokcoedonaaBlkPieces
import Derived.Test.YtiogkokcoedonaaLaw
import Derived.Test.YtiogkokcoedonaaGrow
namespace Go.Proofs.Ytiogkokcoedonaa
open Go.ChangeShapes Go.WideShapes Go.ChangeAt Go.RowKit
set_option maxHeartbeats 800000 in
theorem back_zero (A : Option Addr) (n cap : Nat) (a : Int) (w : World) (h : n < 1 ∨ 512 < n) :
    Calls Try.prog 5 #[.slice A n cap, .int .i64 a] w fun e w' => e = .returned (.bool true) ∧ Below w.heap.size w w' := by
  have hc : BlkM.count n a = 0 := by unfold BlkM.count; rw [if_pos (by omega)]
  have HC := Lib.hid hc
  clear hc
  by_cases h1 : n < 1
  · go_enter Try.func5, Try.ntmps5
    go_wp2_with fail
    refine (split_no n cap A a w HC.out).mono ?_
    rintro e w1 ⟨rfl, hb1⟩
    go_wp2_with fail
    refine (awake10_any _).mono ?_
    rintro e w4 ⟨rfl, hb4⟩
    go_wp2_with fail
    go_ret
    exact ⟨rfl, hb1.trans (hb4.mono hb1.size)⟩
  · have h2 : 512 < n := by omega
    go_enter Try.func5, Try.ntmps5
    go_wp2_with fail
    refine (split_no n cap A a w HC.out).mono ?_
    rintro e w1 ⟨rfl, hb1⟩
    go_wp2_with fail
    refine (awake10_any _).mono ?_
    rintro e w4 ⟨rfl, hb4⟩
    go_wp2_with fail
    go_ret
    exact ⟨rfl, hb1.trans (hb4.mono hb1.size)⟩
theorem quo64 (n s : Int) (h1 : 1 ≤ n) (h2 : n ≤ 512) (h3 : 1 ≤ s) (h4 : s ≤ 16) (h5 : (n + 64 - 1) / 64 ≤ s) : (n + s - 1) / s ≤ 64 := by
  obtain ⟨k, rfl⟩ : ∃ k : Nat, s = k := ⟨s.toNat, by omega⟩
  have : k = 1 ∨ k = 2 ∨ k = 3 ∨ k = 4 ∨ k = 5 ∨ k = 6 ∨ k = 7 ∨ k = 8 ∨ k = 9 ∨ k = 10 ∨ k = 11 ∨ k = 12 ∨ k = 13 ∨ k = 14 ∨ k = 15 ∨ k = 16 := by omega
  rcases this with rfl | rfl | rfl | rfl | rfl | rfl | rfl | rfl | rfl | rfl | rfl | rfl | rfl | rfl | rfl | rfl <;> omega
theorem count_pos (n s : Int) (h1 : 1 ≤ n) (h2 : n ≤ 512) (h3 : 1 ≤ s) (h4 : s ≤ 16) (h5 : (n + 64 - 1) / 64 ≤ s) : 0 < BlkM.count n s := by
  have q := quo64 n s h1 h2 h3 h4 h5
  obtain ⟨q1, _, _, _⟩ := quo_bounds n s h1 h2 h3 h4
  unfold BlkM.count
  rw [if_neg (by omega), if_neg (by omega)]
  omega
theorem join_all (l : List UInt8) (s c g n : Nat) (hb : l.length = n) (h1 : 1 ≤ n) (h2 : n ≤ 512) (h : (n : Int) ≤ (c : Int) * s) : joinF (splitRows l s c g) n = l := by
  have hle : l.length ≤ c * s := by
    rw [← Int.natCast_mul] at h
    rw [hb]
    omega
  unfold joinF
  rw [splitRows_flat _ _ _ _ hle, BlkM.pad_length _ _ hle, if_neg (by omega), if_neg (by rw [← hb]; omega), show (n : Int).toNat = l.length by rw [hb]; rfl, BlkM.pad_take]
theorem join_pad (l : List UInt8) (s c g M : Nat) (h1 : 1 ≤ l.length) (hM : c * s = M) (h : l.length ≤ M) : joinF (splitRows l s c g) M = if M ≤ 512 then l ++ List.replicate (M - l.length) 0 else [] := by
  subst hM
  unfold joinF
  by_cases h5 : c * s ≤ 512
  · rw [if_neg (by omega), splitRows_flat _ _ _ _ h, BlkM.pad_length _ _ h, if_neg (by omega), if_pos h5, Int.toNat_natCast, List.take_of_length_le (by rw [BlkM.pad_length _ _ h]; exact Nat.le_refl _)]
    rfl
  · rw [if_pos (by omega), if_neg h5]
theorem pcs_cells {g s c : Nat} {w1 w2 : World} (h : w1.heap[g]? = some (.cells (pcs g s c c).toArray 22 (0, 0))) (hb : Below w1.heap.size w1 w2) (hg : g < w1.heap.size) : ∀ k, k < c → w2.cell? ⟨g, k, none⟩ = some (.slice (some ⟨g + 1 + k, 0, none⟩) s s) := by
  intro k hk
  rw [cell_of_row _ g k _ _ _ ((hb.block g hg).trans h)]
  simp [pcs_get _ _ _ _ _ hk, hk]
theorem conv_zero (N : Nat) (w : World) : ∀ W, Below (w.alloc (.cells (Array.replicate N (.int .u8 0)) 5)).heap.size (w.alloc (.cells (Array.replicate N (.int .u8 0)) 5)) W → (convert 22 9 (.slice (some ⟨w.heap.size, 0, none⟩) N N)).run Try.prog W = .ok (.string ⟨(List.replicate N (0 : UInt8)).toArray⟩) W := by
  refine conv_row N ?_ (Nat.le_refl _)
  have := row_new w (Array.replicate N (.int .u8 0)) 5 (0, 0)
  simpa [bv] using this
theorem app_str (l : List UInt8) (N : Nat) : (ByteArray.mk l.toArray) ++ (ByteArray.mk (Array.replicate N (0 : UInt8))) = ByteArray.mk (l ++ List.replicate N 0).toArray := by
  apply ByteArray.ext
  simp
theorem ne_str (l : List UInt8) (N : Nat) (h : 1 ≤ l.length) : (([] : List UInt8) == l ++ List.replicate N 0) = false ∧ ((l ++ List.replicate N 0) == ([] : List UInt8)) = false := by
  cases l with
  | nil => simp at h
  | cons x t => simp
set_option maxHeartbeats 3200000 in
theorem back_walk (A : Option Addr) (n cap : Nat) (l : List UInt8) (a : Int) (_ : -9223372036854775808 ≤ a) (_ : a ≤ 9223372036854775807) (w : World) (hl : Row w w.heap.size A n (bv l)) (hn : n ≤ cap) (hcap : cap ≤ 9223372036854775807) :
    Calls Try.prog 5 #[.slice A n cap, .int .i64 a] w fun e w' => e = .returned (.bool true) ∧ Below w.heap.size w w' := by
  by_cases h0 : n < 1 ∨ 512 < n
  · exact back_zero A n cap a w h0
  have hn1 : 1 ≤ n := by omega
  have hn2 : n ≤ 512 := by omega
  obtain ⟨p, hp16, hp⟩ := pick_in a 16 (by omega) (by omega)
  obtain ⟨s, hs⟩ : ∃ s : Nat, (if (1 + (p : Int)) < ((n : Int) + 64 - 1) / 64 then ((n : Int) + 64 - 1) / 64 else 1 + (p : Int)) = (s : Int) := ⟨(if (1 + (p : Int)) < ((n : Int) + 64 - 1) / 64 then ((n : Int) + 64 - 1) / 64 else 1 + (p : Int)).toNat, by split <;> omega⟩
  have hs1 : 1 ≤ s := by split at hs <;> omega
  have hs2 : s ≤ 16 := by split at hs <;> omega
  have hs3 : ((n : Int) + 64 - 1) / 64 ≤ s := by split at hs <;> omega
  have hcp := count_pos n s (by omega) (by omega) (by omega) (by omega) hs3
  obtain ⟨c, hcN⟩ : ∃ c, BlkM.count n s = c := ⟨_, rfl⟩
  rw [hcN] at hcp
  obtain ⟨q1, q2, q3, q4, q5, q6, q7⟩ := count_facts n s c hcN hcp
  have hw1 : wrap64 (1 + (p : Int)) = 1 + (p : Int) := IntWalk.wrap64_in _ ⟨by omega, by omega⟩
  have HP := Lib.hid hp
  have HW1 := Lib.hid hw1
  clear hw1
  have HS := Lib.hid hs
  have HC := Lib.hid hcN
  have HB := Lib.hid hl.blen
  have HQ6 := Lib.hid q6
  have hs0 : ¬ s = 0 := by omega
  clear hs hcN q1 q2 q3 q4 q6 q7 hs3 h0 hp
  go_enter Try.func5, Try.ntmps5
  go_upto_region 4 with fail
  rw [HP.out, HW1.out, HS.out]
  go_wp2_with fail
  refine (split_at w.heap.size w.heap.size n cap s c A l w rfl hl hn hcap HC.out hcp (Nat.le_refl _)).mono ?_
  rintro e w1 ⟨rfl, hS⟩
  have hb1 : Below w.heap.size w w1 := hS.2.2.2
  have hgs := hb1.size
  have hkl := Lib.hid (conv_row cap (hl.below hb1) hgs)
  have hJ1 := Lib.hid (fun gg => join_all l s c gg n HB.out hn1 hn2 HQ6.out)
  have hS1 := Lib.hid hS
  have hS1size : w.heap.size < w1.heap.size := by have := hS.1; omega
  clear hS
  have hc1 : ((c : Int) != (c : Int)) = false := by simp
  have hc2 : decide ((c : Int) < 1) = false := by simp; omega
  have hc3 : decide (64 < (c : Int)) = false := by simp; omega
  have hll : (l.toArray != l.toArray) = false := by simp
  have hll2 : (!(l.toArray == l.toArray)) = false := by simp
  go_wp2_with fail
  refine wp_region_noPanic ?_
  refine wp_region_held_drew (S := (fun W => Below w1.heap.size w1 W)) (by kernel_rfl) (Below.refl _ _).drew (fun hH0 => ?_)
  have hH0 : Below w1.heap.size w1 w1.drew := hH0
  generalize w1.drew = wd at *
  refine wpAnyH_take (i := 0) (oi := { dst := some 38, op := Op.move (Operand.tmp 5), type := 23, pos := "law.go:72", after := #[], guard := none }) (v := ?tkv1) rfl (by kernel_rfl) (by kernel_rfl) (by kernel_rfl) (fun _ _ _ h => h) (Or.inl ⟨by rfl, ?tky1⟩) hH0 ?tkr1
  case tky1 => (intro w' hSw; clear hSw; go_simp; try with_reducible rfl)
  try simp only [Act.put, List.setIfInBounds_toArray, List.set_cons_zero, List.set_cons_succ]
  refine wpAnyH_take (i := 1) (oi := { dst := some 39, op := Op.call { callee := Callee.builtin Builtin.len, args := #[Operand.tmp 38], argTypes := #[23] }, type := 3, pos := "law.go:72", after := #[{ on := 0, ground := Ground.data }], guard := none }) (v := ?tkv2) rfl (by kernel_rfl) (by kernel_rfl) (by kernel_rfl) (fun _ _ _ h => h) (Or.inl ⟨by rfl, ?tky2⟩) hH0 ?tkr2
  case tky2 => (intro w' hSw; clear hSw; go_simp; try with_reducible rfl)
  try simp only [Act.put, List.setIfInBounds_toArray, List.set_cons_zero, List.set_cons_succ]
  refine wpAnyH_take (i := 2) (oi := { dst := some 40, op := Op.move (Operand.tmp 0), type := 22, pos := "law.go:72", after := #[], guard := none }) (v := ?tkv3) rfl (by kernel_rfl) (by kernel_rfl) (by kernel_rfl) (fun _ _ _ h => h) (Or.inl ⟨by rfl, ?tky3⟩) hH0 ?tkr3
  case tky3 => (intro w' hSw; clear hSw; go_simp; try with_reducible rfl)
  try simp only [Act.put, List.setIfInBounds_toArray, List.set_cons_zero, List.set_cons_succ]
  refine wpAnyH_take (i := 3) (oi := { dst := some 41, op := Op.call { callee := Callee.builtin Builtin.len, args := #[Operand.tmp 40], argTypes := #[22] }, type := 3, pos := "law.go:72", after := #[{ on := 2, ground := Ground.data }], guard := none }) (v := ?tkv4) rfl (by kernel_rfl) (by kernel_rfl) (by kernel_rfl) (fun _ _ _ h => h) (Or.inl ⟨by rfl, ?tky4⟩) hH0 ?tkr4
  case tky4 => (intro w' hSw; clear hSw; go_simp; try with_reducible rfl)
  try simp only [Act.put, List.setIfInBounds_toArray, List.set_cons_zero, List.set_cons_succ]
  refine wpAnyH_take (i := 4) (oi := { dst := some 42, op := Op.move (Operand.tmp 1), type := 3, pos := "law.go:72", after := #[], guard := none }) (v := ?tkv5) rfl (by kernel_rfl) (by kernel_rfl) (by kernel_rfl) (fun _ _ _ h => h) (Or.inl ⟨by rfl, ?tky5⟩) hH0 ?tkr5
  case tky5 => (intro w' hSw; clear hSw; go_simp; try with_reducible rfl)
  try simp only [Act.put, List.setIfInBounds_toArray, List.set_cons_zero, List.set_cons_succ]
  refine wpAnyH_ready (rs := [5]) (by kernel_rfl) (by simp) ?_
  refine AllReadyH.cons (o := { dst := some 43, op := Op.call { callee := Callee.value (Operand.func 11), args := #[Operand.tmp 41, Operand.tmp 42], argTypes := #[3, 3] }, type := 3, pos := "law.go:72", after := #[{ on := 3, ground := Ground.data }, { on := 4, ground := Ground.data }], guard := none }) rfl (fun K hK => ?_) AllReadyH.nil
  go_simp
  refine (count_any _ _ _).mono ?_
  rintro e w' ⟨rfl, rfl⟩
  rw [HC.out]
  go_wp2_with fail
  refine hK.out _ _ hH0 (fun hH6 => ?_)
  clear hK K
  try simp only [Act.put, List.setIfInBounds_toArray, List.set_cons_zero, List.set_cons_succ]
  refine wpAnyH_take (i := 6) (oi := { dst := some 44, op := Op.binOp BinOp.neq 3 (Operand.tmp 39) (Operand.tmp 43) 3, type := 4, pos := "law.go:72", after := #[{ on := 1, ground := Ground.data }, { on := 5, ground := Ground.data }], guard := none }) (v := ?tkv7) rfl (by kernel_rfl) (by kernel_rfl) (by kernel_rfl) (fun _ _ _ h => h) (Or.inl ⟨by rfl, ?tky7⟩) hH6 ?tkr7
  case tky7 => (intro w' hSw; clear hSw; go_simp; try with_reducible rfl)
  try simp only [Act.put, List.setIfInBounds_toArray, List.set_cons_zero, List.set_cons_succ]
  refine wpAnyH_take (i := 7) (oi := { dst := some 45, op := Op.move (Operand.tmp 44), type := 4, pos := "law.go:72", after := #[{ on := 6, ground := Ground.data }, { on := 5, ground := Ground.chain }], guard := none }) (v := ?tkv8) rfl (by kernel_rfl) (by kernel_rfl) (by kernel_rfl) (fun _ _ _ h => h) (Or.inl ⟨by rfl, ?tky8⟩) hH6 ?tkr8
  case tky8 => (intro w' hSw; clear hSw; go_simp; try with_reducible rfl)
  try simp only [Act.put, List.setIfInBounds_toArray, List.set_cons_zero, List.set_cons_succ]
  refine wpAnyH_take (i := 8) (oi := { dst := some 46, op := Op.move (Operand.tmp 5), type := 23, pos := "law.go:72", after := #[{ on := 7, ground := Ground.guard }], guard := some (7, false) }) (v := ?tkv9) rfl (by kernel_rfl) (by kernel_rfl) (by kernel_rfl) (fun _ _ _ h => h) (Or.inl ⟨by rfl, ?tky9⟩) hH6 ?tkr9
  case tky9 => (intro w' hSw; clear hSw; go_simp; try with_reducible rfl)
  try simp only [Act.put, List.setIfInBounds_toArray, List.set_cons_zero, List.set_cons_succ]
  refine wpAnyH_take (i := 9) (oi := { dst := some 47, op := Op.call { callee := Callee.builtin Builtin.len, args := #[Operand.tmp 46], argTypes := #[23] }, type := 3, pos := "law.go:72", after := #[{ on := 8, ground := Ground.data }, { on := 7, ground := Ground.guard }], guard := some (7, false) }) (v := ?tkv10) rfl (by kernel_rfl) (by kernel_rfl) (by kernel_rfl) (fun _ _ _ h => h) (Or.inl ⟨by rfl, ?tky10⟩) hH6 ?tkr10
  case tky10 => (intro w' hSw; clear hSw; go_simp; try with_reducible rfl)
  try simp only [Act.put, List.setIfInBounds_toArray, List.set_cons_zero, List.set_cons_succ]
  refine wpAnyH_take (i := 10) (oi := { dst := some 48, op := Op.binOp BinOp.lss 3 (Operand.tmp 47) (Operand.const (Value.int IntKind.i64 1)) 3, type := 4, pos := "law.go:72", after := #[{ on := 9, ground := Ground.data }, { on := 7, ground := Ground.guard }], guard := some (7, false) }) (v := ?tkv11) rfl (by kernel_rfl) (by kernel_rfl) (by kernel_rfl) (fun _ _ _ h => h) (Or.inl ⟨by rfl, ?tky11⟩) hH6 ?tkr11
  case tky11 => (intro w' hSw; clear hSw; go_simp; try with_reducible rfl)
  try simp only [Act.put, List.setIfInBounds_toArray, List.set_cons_zero, List.set_cons_succ]
  refine wpAnyH_take (i := 11) (oi := { dst := some 49, op := Op.pick (Operand.tmp 45) (Operand.const (Value.bool true)) (Operand.tmp 48), type := 4, pos := "law.go:72", after := #[{ on := 7, ground := Ground.data }, { on := 10, ground := Ground.data }], guard := none }) (v := ?tkv12) rfl (by kernel_rfl) (by kernel_rfl) (by kernel_rfl) (fun _ _ _ h => h) (Or.inl ⟨by rfl, ?tky12⟩) hH6 ?tkr12
  case tky12 => (intro w' hSw; clear hSw; go_simp; try with_reducible rfl)
  try simp only [Act.put, List.setIfInBounds_toArray, List.set_cons_zero, List.set_cons_succ]
  refine wpAnyH_take (i := 12) (oi := { dst := some 50, op := Op.move (Operand.tmp 49), type := 4, pos := "law.go:72", after := #[{ on := 11, ground := Ground.data }, { on := 7, ground := Ground.chain }], guard := none }) (v := ?tkv13) rfl (by kernel_rfl) (by kernel_rfl) (by kernel_rfl) (fun _ _ _ h => h) (Or.inl ⟨by rfl, ?tky13⟩) hH6 ?tkr13
  case tky13 => (intro w' hSw; clear hSw; go_simp; try with_reducible rfl)
  try simp only [Act.put, List.setIfInBounds_toArray, List.set_cons_zero, List.set_cons_succ]
  refine wpAnyH_take (i := 13) (oi := { dst := some 51, op := Op.move (Operand.tmp 5), type := 23, pos := "law.go:72", after := #[{ on := 12, ground := Ground.guard }], guard := some (12, false) }) (v := ?tkv14) rfl (by kernel_rfl) (by kernel_rfl) (by kernel_rfl) (fun _ _ _ h => h) (Or.inl ⟨by rfl, ?tky14⟩) hH6 ?tkr14
  case tky14 => (intro w' hSw; clear hSw; go_simp; try with_reducible rfl)
  try simp only [Act.put, List.setIfInBounds_toArray, List.set_cons_zero, List.set_cons_succ]
  refine wpAnyH_take (i := 14) (oi := { dst := some 52, op := Op.call { callee := Callee.builtin Builtin.len, args := #[Operand.tmp 51], argTypes := #[23] }, type := 3, pos := "law.go:72", after := #[{ on := 13, ground := Ground.data }, { on := 12, ground := Ground.guard }], guard := some (12, false) }) (v := ?tkv15) rfl (by kernel_rfl) (by kernel_rfl) (by kernel_rfl) (fun _ _ _ h => h) (Or.inl ⟨by rfl, ?tky15⟩) hH6 ?tkr15
  case tky15 => (intro w' hSw; clear hSw; go_simp; try with_reducible rfl)
  try simp only [Act.put, List.setIfInBounds_toArray, List.set_cons_zero, List.set_cons_succ]
  refine wpAnyH_take (i := 15) (oi := { dst := some 53, op := Op.binOp BinOp.gtr 3 (Operand.tmp 52) (Operand.const (Value.int IntKind.i64 64)) 3, type := 4, pos := "law.go:72", after := #[{ on := 14, ground := Ground.data }, { on := 12, ground := Ground.guard }], guard := some (12, false) }) (v := ?tkv16) rfl (by kernel_rfl) (by kernel_rfl) (by kernel_rfl) (fun _ _ _ h => h) (Or.inl ⟨by rfl, ?tky16⟩) hH6 ?tkr16
  case tky16 => (intro w' hSw; clear hSw; go_simp; try with_reducible rfl)
  try simp only [Act.put, List.setIfInBounds_toArray, List.set_cons_zero, List.set_cons_succ]
  refine wpAnyH_take (i := 16) (oi := { dst := some 54, op := Op.pick (Operand.tmp 50) (Operand.const (Value.bool true)) (Operand.tmp 53), type := 4, pos := "law.go:72", after := #[{ on := 12, ground := Ground.data }, { on := 15, ground := Ground.data }], guard := none }) (v := ?tkv17) rfl (by kernel_rfl) (by kernel_rfl) (by kernel_rfl) (fun _ _ _ h => h) (Or.inl ⟨by rfl, ?tky17⟩) hH6 ?tkr17
  case tky17 => (intro w' hSw; clear hSw; go_simp; try with_reducible rfl)
  try simp only [Act.put, List.setIfInBounds_toArray, List.set_cons_zero, List.set_cons_succ]
  refine wpAnyH_take (i := 17) (oi := { dst := some 55, op := Op.move (Operand.tmp 54), type := 4, pos := "law.go:72", after := #[{ on := 16, ground := Ground.data }, { on := 12, ground := Ground.chain }], guard := none }) (v := ?tkv18) rfl (by kernel_rfl) (by kernel_rfl) (by kernel_rfl) (fun _ _ _ h => h) (Or.inl ⟨by rfl, ?tky18⟩) hH6 ?tkr18
  case tky18 => (intro w' hSw; clear hSw; go_simp; try with_reducible rfl)
  try simp only [Act.put, List.setIfInBounds_toArray, List.set_cons_zero, List.set_cons_succ]
  refine wpAnyH_take (i := 18) (oi := { dst := some 56, op := Op.move (Operand.tmp 5), type := 23, pos := "law.go:72", after := #[{ on := 17, ground := Ground.guard }], guard := some (17, false) }) (v := ?tkv19) rfl (by kernel_rfl) (by kernel_rfl) (by kernel_rfl) (fun _ _ _ h => h) (Or.inl ⟨by rfl, ?tky19⟩) hH6 ?tkr19
  case tky19 => (intro w' hSw; clear hSw; go_simp; try with_reducible rfl)
  try simp only [Act.put, List.setIfInBounds_toArray, List.set_cons_zero, List.set_cons_succ]
  refine wpAnyH_take (i := 19) (oi := { dst := some 57, op := Op.move (Operand.tmp 0), type := 22, pos := "law.go:72", after := #[{ on := 17, ground := Ground.guard }], guard := some (17, false) }) (v := ?tkv20) rfl (by kernel_rfl) (by kernel_rfl) (by kernel_rfl) (fun _ _ _ h => h) (Or.inl ⟨by rfl, ?tky20⟩) hH6 ?tkr20
  case tky20 => (intro w' hSw; clear hSw; go_simp; try with_reducible rfl)
  try simp only [Act.put, List.setIfInBounds_toArray, List.set_cons_zero, List.set_cons_succ]
  refine wpAnyH_take (i := 20) (oi := { dst := some 58, op := Op.call { callee := Callee.builtin Builtin.len, args := #[Operand.tmp 57], argTypes := #[22] }, type := 3, pos := "law.go:72", after := #[{ on := 19, ground := Ground.data }, { on := 17, ground := Ground.guard }], guard := some (17, false) }) (v := ?tkv21) rfl (by kernel_rfl) (by kernel_rfl) (by kernel_rfl) (fun _ _ _ h => h) (Or.inl ⟨by rfl, ?tky21⟩) hH6 ?tkr21
  case tky21 => (intro w' hSw; clear hSw; go_simp; try with_reducible rfl)
  try simp only [Act.put, List.setIfInBounds_toArray, List.set_cons_zero, List.set_cons_succ]
  refine wpAnyH_take (i := 23) (oi := { dst := some 61, op := Op.move (Operand.tmp 0), type := 22, pos := "law.go:72", after := #[{ on := 17, ground := Ground.guard }], guard := some (17, false) }) (v := ?tkv22) rfl (by kernel_rfl) (by kernel_rfl) (by kernel_rfl) (fun _ _ _ h => h) (Or.inl ⟨by rfl, ?tky22⟩) hH6 ?tkr22
  case tky22 => (intro w' hSw; clear hSw; go_simp; try with_reducible rfl)
  try simp only [Act.put, List.setIfInBounds_toArray, List.set_cons_zero, List.set_cons_succ]
  refine wpAnyH_take (i := 24) (oi := { dst := some 62, op := Op.convert 22 9 (Operand.tmp 61), type := 9, pos := "law.go:72", after := #[{ on := 23, ground := Ground.data }, { on := 17, ground := Ground.guard }], guard := some (17, false) }) (v := ?tkv23) rfl (by kernel_rfl) (by kernel_rfl) (by kernel_rfl) (fun _ _ _ h => h) (Or.inl ⟨by rfl, ?tky23⟩) hH6 ?tkr23
  case tky23 => (intro w' hSw; have z0 := hkl.out _ hSw; clear hSw; go_simp; try with_reducible rfl)
  try simp only [Act.put, List.setIfInBounds_toArray, List.set_cons_zero, List.set_cons_succ]
  refine wpAnyH_ready (rs := [21]) (by kernel_rfl) (by simp) ?_
  refine AllReadyH.cons (o := { dst := some 59, op := Op.call { callee := Callee.value (Operand.func 16), args := #[Operand.tmp 56, Operand.tmp 58], argTypes := #[23, 3] }, type := 22, pos := "law.go:72", after := #[{ on := 18, ground := Ground.data }, { on := 20, ground := Ground.data }, { on := 17, ground := Ground.chain }, { on := 17, ground := Ground.guard }], guard := some (17, false) }) rfl (fun K hK => ?_) AllReadyH.nil
  go_simp
  refine (join_at w.heap.size w1.heap.size c c _ _ (hS1.out.rows.below hH6) (by omega) (hH6).size (splitRows_big l s c _ (by omega)) n).mono ?_
  rw [hJ1.out]
  rintro e w2 ⟨A2, n2, c2, rfl, hn2', hown2, hb21⟩
  have hk2 := Lib.hid (conv_own c2 hown2)
  clear hn2' hown2
  go_wp2_with fail
  refine hK.out _ _ ((hH6).trans (hb21.mono (hH6).size)) (fun hH24 => ?_)
  clear hK K
  try simp only [Act.put, List.setIfInBounds_toArray, List.set_cons_zero, List.set_cons_succ]
  have hG24 : (fun W => Below w1.heap.size w1 W ∧ Below w2.heap.size w2 W) w2 := ⟨hH24, Below.refl _ _⟩
  refine wpAnyH_grow (S' := (fun W => Below w1.heap.size w1 W ∧ Below w2.heap.size w2 W)) (fun _ h => h.1) _ _ _ _ ?_
  refine wpAnyH_take (i := 22) (oi := { dst := some 60, op := Op.convert 22 9 (Operand.tmp 59), type := 9, pos := "law.go:72", after := #[{ on := 21, ground := Ground.data }, { on := 17, ground := Ground.guard }], guard := some (17, false) }) (v := ?tkv25) rfl (by kernel_rfl) (by kernel_rfl) (by kernel_rfl) (fun _ _ _ h => h) (Or.inl ⟨by rfl, ?tky25⟩) hG24 ?tkr25
  case tky25 => (intro w' hSw; have z0 := hkl.out _ hSw.1; have z1 := hk2.out _ hSw.2; clear hSw; go_simp; try with_reducible rfl)
  try simp only [Act.put, List.setIfInBounds_toArray, List.set_cons_zero, List.set_cons_succ]
  refine wpAnyH_take (i := 25) (oi := { dst := some 63, op := Op.binOp BinOp.neq 9 (Operand.tmp 60) (Operand.tmp 62) 9, type := 4, pos := "law.go:72", after := #[{ on := 22, ground := Ground.data }, { on := 24, ground := Ground.data }, { on := 17, ground := Ground.guard }], guard := some (17, false) }) (v := ?tkv26) rfl (by kernel_rfl) (by kernel_rfl) (by kernel_rfl) (fun _ _ _ h => h) (Or.inl ⟨by rfl, ?tky26⟩) hG24 ?tkr26
  case tky26 => (intro w' hSw; clear hSw; go_simp; try with_reducible rfl)
  try simp only [Act.put, List.setIfInBounds_toArray, List.set_cons_zero, List.set_cons_succ]
  refine wpAnyH_take (i := 26) (oi := { dst := some 64, op := Op.pick (Operand.tmp 55) (Operand.const (Value.bool true)) (Operand.tmp 63), type := 4, pos := "law.go:72", after := #[{ on := 17, ground := Ground.data }, { on := 25, ground := Ground.data }], guard := none }) (v := ?tkv27) rfl (by kernel_rfl) (by kernel_rfl) (by kernel_rfl) (fun _ _ _ h => h) (Or.inl ⟨by rfl, ?tky27⟩) hG24 ?tkr27
  case tky27 => (intro w' hSw; clear hSw; go_simp; try with_reducible rfl)
  try simp only [Act.put, List.setIfInBounds_toArray, List.set_cons_zero, List.set_cons_succ]
  refine wpAnyH_done (by kernel_rfl) ?_ _
  refine NoPanic.normal ?_
  have hEnd : Below w1.heap.size w1 _ := hG24.1
  clear hc1 hc2 hc3 hll hll2 hk2
  have hcells := Lib.hid (pcs_cells (hS1.out.2.1) hEnd (by have := hS1size; omega))
  go_wp2_with fail
  go_loopw [67] (fun x wr => ∃ k : Nat, k ≤ c ∧ x = .int .i64 k ∧ w2 = wr) (fun x _ => c - (intOf x).toNat)
  case atStart => exact ⟨0, by omega, rfl, rfl⟩
  case round =>
    obtain ⟨k, hk, rfl, rfl⟩ := hrel
    by_cases hlt : k < c
    · have hcell := hcells.out k hlt
      go_wp2_with fail
      go_roundw
      case rel => exact ⟨k + 1, by omega, by go_num, trivial⟩
      case measure => simp [intOf]; omega
    · obtain rfl : c = k := by omega
      go_wp2_with fail
      have hB2 : Below w.heap.size w w2 := hb1.trans (hEnd.mono hgs)
      have hkl2 := Lib.hid (conv_row cap (hl.below hB2) hB2.size)
      obtain ⟨M, hM⟩ : ∃ M : Nat, M = c * s := ⟨_, rfl⟩
      have hMi : (c : Int) * (s : Int) = (M : Int) := by rw [← Int.natCast_mul, ← hM]
      have hnM : n ≤ M := by have h6 := HQ6.out; rw [hMi] at h6; omega
      have hM2 : M ≤ 1024 := by
        have := Nat.mul_le_mul (show c ≤ 64 by omega) hs2
        omega
      have hwM : IntKind.i64.wrap (M : Int) = (M : Int) := IntWalk.i64_in _ (by omega)
      obtain ⟨N, hN⟩ : ∃ N : Nat, N = M - n := ⟨_, rfl⟩
      have hwN : IntKind.i64.wrap ((M : Int) - (n : Int)) = (N : Int) := by
        rw [show (M : Int) - (n : Int) = (N : Int) by omega]
        exact IntWalk.i64_in _ (by omega)
      have hmk := mk_bytes N (by omega)
      have hJJ : ∀ gg, joinF (splitRows l s c gg) M = if M ≤ 512 then l ++ List.replicate N 0 else [] := fun gg => by
        rw [join_pad l s c gg M (by rw [HB.out]; exact hn1) hM.symm (by rw [HB.out]; exact hnM), HB.out, hN]
      have hadd := app_str l N
      have hcat : ¬ 9223372036854775807 < l.length + N := by rw [HB.out]; omega
      have hl0 := Lib.hid (ne_str l N (by rw [HB.out]; exact hn1))
      clear hM hN hk
      by_cases h5 : M ≤ 512
      · have hJ2 := Lib.hid (fun gg => (hJJ gg).trans (if_pos h5))
        have h5i : (M : Int) ≤ 512 := by omega
        clear hJJ
        refine wp_region_noPanic ?_
        refine wp_region_held_drew (S := (fun W => Below w2.heap.size w2 W)) (by kernel_rfl) (Below.refl _ _).drew (fun hH0 => ?_)
        have hH0 : Below w2.heap.size w2 w2.drew := hH0
        generalize w2.drew = wd at *
        refine wpAnyH_take (i := 0) (oi := { dst := some 76, op := Op.move (Operand.tmp 5), type := 23, pos := "law.go:80", after := #[], guard := none }) (v := ?tkv1001) rfl (by kernel_rfl) (by kernel_rfl) (by kernel_rfl) (fun _ _ _ h => h) (Or.inl ⟨by rfl, ?tky1001⟩) hH0 ?tkr1001
        case tky1001 => (intro w' hSw; clear hSw; go_simp; try with_reducible rfl)
        try simp only [Act.put, List.setIfInBounds_toArray, List.set_cons_zero, List.set_cons_succ]
        refine wpAnyH_take (i := 1) (oi := { dst := some 77, op := Op.move (Operand.tmp 5), type := 23, pos := "law.go:80", after := #[], guard := none }) (v := ?tkv1002) rfl (by kernel_rfl) (by kernel_rfl) (by kernel_rfl) (fun _ _ _ h => h) (Or.inl ⟨by rfl, ?tky1002⟩) hH0 ?tkr1002
        case tky1002 => (intro w' hSw; clear hSw; go_simp; try with_reducible rfl)
        try simp only [Act.put, List.setIfInBounds_toArray, List.set_cons_zero, List.set_cons_succ]
        refine wpAnyH_take (i := 2) (oi := { dst := some 78, op := Op.call { callee := Callee.builtin Builtin.len, args := #[Operand.tmp 77], argTypes := #[23] }, type := 3, pos := "law.go:80", after := #[{ on := 1, ground := Ground.data }], guard := none }) (v := ?tkv1003) rfl (by kernel_rfl) (by kernel_rfl) (by kernel_rfl) (fun _ _ _ h => h) (Or.inl ⟨by rfl, ?tky1003⟩) hH0 ?tkr1003
        case tky1003 => (intro w' hSw; clear hSw; go_simp; try with_reducible rfl)
        try simp only [Act.put, List.setIfInBounds_toArray, List.set_cons_zero, List.set_cons_succ]
        refine wpAnyH_take (i := 3) (oi := { dst := some 79, op := Op.move (Operand.tmp 1), type := 3, pos := "law.go:80", after := #[], guard := none }) (v := ?tkv1004) rfl (by kernel_rfl) (by kernel_rfl) (by kernel_rfl) (fun _ _ _ h => h) (Or.inl ⟨by rfl, ?tky1004⟩) hH0 ?tkr1004
        case tky1004 => (intro w' hSw; clear hSw; go_simp; try with_reducible rfl)
        try simp only [Act.put, List.setIfInBounds_toArray, List.set_cons_zero, List.set_cons_succ]
        refine wpAnyH_take (i := 4) (oi := { dst := some 80, op := Op.binOp BinOp.mul 3 (Operand.tmp 78) (Operand.tmp 79) 3, type := 3, pos := "law.go:80", after := #[{ on := 2, ground := Ground.data }, { on := 3, ground := Ground.data }], guard := none }) (v := ?tkv1005) rfl (by kernel_rfl) (by kernel_rfl) (by kernel_rfl) (fun _ _ _ h => h) (Or.inl ⟨by rfl, ?tky1005⟩) hH0 ?tkr1005
        case tky1005 => (intro w' hSw; clear hSw; go_simp; try with_reducible rfl)
        try simp only [Act.put, List.setIfInBounds_toArray, List.set_cons_zero, List.set_cons_succ]
        refine wpAnyH_take (i := 7) (oi := { dst := some 83, op := Op.move (Operand.tmp 0), type := 22, pos := "law.go:80", after := #[], guard := none }) (v := ?tkv1006) rfl (by kernel_rfl) (by kernel_rfl) (by kernel_rfl) (fun _ _ _ h => h) (Or.inl ⟨by rfl, ?tky1006⟩) hH0 ?tkr1006
        case tky1006 => (intro w' hSw; clear hSw; go_simp; try with_reducible rfl)
        try simp only [Act.put, List.setIfInBounds_toArray, List.set_cons_zero, List.set_cons_succ]
        refine wpAnyH_take (i := 8) (oi := { dst := some 84, op := Op.convert 22 9 (Operand.tmp 83), type := 9, pos := "law.go:80", after := #[{ on := 7, ground := Ground.data }], guard := none }) (v := ?tkv1007) rfl (by kernel_rfl) (by kernel_rfl) (by kernel_rfl) (fun _ _ _ h => h) (Or.inl ⟨by rfl, ?tky1007⟩) hH0 ?tkr1007
        case tky1007 => (intro w' hSw; have z0 := hkl2.out _ hSw; clear hSw; go_simp; try with_reducible rfl)
        try simp only [Act.put, List.setIfInBounds_toArray, List.set_cons_zero, List.set_cons_succ]
        refine wpAnyH_take (i := 9) (oi := { dst := some 85, op := Op.move (Operand.tmp 5), type := 23, pos := "law.go:80", after := #[], guard := none }) (v := ?tkv1008) rfl (by kernel_rfl) (by kernel_rfl) (by kernel_rfl) (fun _ _ _ h => h) (Or.inl ⟨by rfl, ?tky1008⟩) hH0 ?tkr1008
        case tky1008 => (intro w' hSw; clear hSw; go_simp; try with_reducible rfl)
        try simp only [Act.put, List.setIfInBounds_toArray, List.set_cons_zero, List.set_cons_succ]
        refine wpAnyH_take (i := 10) (oi := { dst := some 86, op := Op.call { callee := Callee.builtin Builtin.len, args := #[Operand.tmp 85], argTypes := #[23] }, type := 3, pos := "law.go:80", after := #[{ on := 9, ground := Ground.data }], guard := none }) (v := ?tkv1009) rfl (by kernel_rfl) (by kernel_rfl) (by kernel_rfl) (fun _ _ _ h => h) (Or.inl ⟨by rfl, ?tky1009⟩) hH0 ?tkr1009
        case tky1009 => (intro w' hSw; clear hSw; go_simp; try with_reducible rfl)
        try simp only [Act.put, List.setIfInBounds_toArray, List.set_cons_zero, List.set_cons_succ]
        refine wpAnyH_take (i := 11) (oi := { dst := some 87, op := Op.move (Operand.tmp 1), type := 3, pos := "law.go:80", after := #[], guard := none }) (v := ?tkv1010) rfl (by kernel_rfl) (by kernel_rfl) (by kernel_rfl) (fun _ _ _ h => h) (Or.inl ⟨by rfl, ?tky1010⟩) hH0 ?tkr1010
        case tky1010 => (intro w' hSw; clear hSw; go_simp; try with_reducible rfl)
        try simp only [Act.put, List.setIfInBounds_toArray, List.set_cons_zero, List.set_cons_succ]
        refine wpAnyH_take (i := 12) (oi := { dst := some 88, op := Op.binOp BinOp.mul 3 (Operand.tmp 86) (Operand.tmp 87) 3, type := 3, pos := "law.go:80", after := #[{ on := 10, ground := Ground.data }, { on := 11, ground := Ground.data }], guard := none }) (v := ?tkv1011) rfl (by kernel_rfl) (by kernel_rfl) (by kernel_rfl) (fun _ _ _ h => h) (Or.inl ⟨by rfl, ?tky1011⟩) hH0 ?tkr1011
        case tky1011 => (intro w' hSw; clear hSw; go_simp; try with_reducible rfl)
        try simp only [Act.put, List.setIfInBounds_toArray, List.set_cons_zero, List.set_cons_succ]
        refine wpAnyH_take (i := 13) (oi := { dst := some 89, op := Op.move (Operand.tmp 0), type := 22, pos := "law.go:80", after := #[], guard := none }) (v := ?tkv1012) rfl (by kernel_rfl) (by kernel_rfl) (by kernel_rfl) (fun _ _ _ h => h) (Or.inl ⟨by rfl, ?tky1012⟩) hH0 ?tkr1012
        case tky1012 => (intro w' hSw; clear hSw; go_simp; try with_reducible rfl)
        try simp only [Act.put, List.setIfInBounds_toArray, List.set_cons_zero, List.set_cons_succ]
        refine wpAnyH_take (i := 14) (oi := { dst := some 90, op := Op.call { callee := Callee.builtin Builtin.len, args := #[Operand.tmp 89], argTypes := #[22] }, type := 3, pos := "law.go:80", after := #[{ on := 13, ground := Ground.data }], guard := none }) (v := ?tkv1013) rfl (by kernel_rfl) (by kernel_rfl) (by kernel_rfl) (fun _ _ _ h => h) (Or.inl ⟨by rfl, ?tky1013⟩) hH0 ?tkr1013
        case tky1013 => (intro w' hSw; clear hSw; go_simp; try with_reducible rfl)
        try simp only [Act.put, List.setIfInBounds_toArray, List.set_cons_zero, List.set_cons_succ]
        refine wpAnyH_take (i := 15) (oi := { dst := some 91, op := Op.binOp BinOp.sub 3 (Operand.tmp 88) (Operand.tmp 90) 3, type := 3, pos := "law.go:80", after := #[{ on := 12, ground := Ground.data }, { on := 14, ground := Ground.data }], guard := none }) (v := ?tkv1014) rfl (by kernel_rfl) (by kernel_rfl) (by kernel_rfl) (fun _ _ _ h => h) (Or.inl ⟨by rfl, ?tky1014⟩) hH0 ?tkr1014
        case tky1014 => (intro w' hSw; clear hSw; go_simp; try with_reducible rfl)
        try simp only [Act.put, List.setIfInBounds_toArray, List.set_cons_zero, List.set_cons_succ]
        refine wpAnyH_take (i := 20) (oi := { dst := some 96, op := Op.move (Operand.tmp 5), type := 23, pos := "law.go:80", after := #[], guard := none }) (v := ?tkv1015) rfl (by kernel_rfl) (by kernel_rfl) (by kernel_rfl) (fun _ _ _ h => h) (Or.inl ⟨by rfl, ?tky1015⟩) hH0 ?tkr1015
        case tky1015 => (intro w' hSw; clear hSw; go_simp; try with_reducible rfl)
        try simp only [Act.put, List.setIfInBounds_toArray, List.set_cons_zero, List.set_cons_succ]
        refine wpAnyH_take (i := 21) (oi := { dst := some 97, op := Op.call { callee := Callee.builtin Builtin.len, args := #[Operand.tmp 96], argTypes := #[23] }, type := 3, pos := "law.go:80", after := #[{ on := 20, ground := Ground.data }], guard := none }) (v := ?tkv1016) rfl (by kernel_rfl) (by kernel_rfl) (by kernel_rfl) (fun _ _ _ h => h) (Or.inl ⟨by rfl, ?tky1016⟩) hH0 ?tkr1016
        case tky1016 => (intro w' hSw; clear hSw; go_simp; try with_reducible rfl)
        try simp only [Act.put, List.setIfInBounds_toArray, List.set_cons_zero, List.set_cons_succ]
        refine wpAnyH_take (i := 22) (oi := { dst := some 98, op := Op.move (Operand.tmp 1), type := 3, pos := "law.go:80", after := #[], guard := none }) (v := ?tkv1017) rfl (by kernel_rfl) (by kernel_rfl) (by kernel_rfl) (fun _ _ _ h => h) (Or.inl ⟨by rfl, ?tky1017⟩) hH0 ?tkr1017
        case tky1017 => (intro w' hSw; clear hSw; go_simp; try with_reducible rfl)
        try simp only [Act.put, List.setIfInBounds_toArray, List.set_cons_zero, List.set_cons_succ]
        refine wpAnyH_take (i := 23) (oi := { dst := some 99, op := Op.binOp BinOp.mul 3 (Operand.tmp 97) (Operand.tmp 98) 3, type := 3, pos := "law.go:80", after := #[{ on := 21, ground := Ground.data }, { on := 22, ground := Ground.data }], guard := none }) (v := ?tkv1018) rfl (by kernel_rfl) (by kernel_rfl) (by kernel_rfl) (fun _ _ _ h => h) (Or.inl ⟨by rfl, ?tky1018⟩) hH0 ?tkr1018
        case tky1018 => (intro w' hSw; clear hSw; go_simp; try with_reducible rfl)
        try simp only [Act.put, List.setIfInBounds_toArray, List.set_cons_zero, List.set_cons_succ]
        refine wpAnyH_take (i := 24) (oi := { dst := some 100, op := Op.binOp BinOp.leq 3 (Operand.tmp 99) (Operand.const (Value.int IntKind.i64 512)) 3, type := 4, pos := "law.go:80", after := #[{ on := 23, ground := Ground.data }], guard := none }) (v := ?tkv1019) rfl (by kernel_rfl) (by kernel_rfl) (by kernel_rfl) (fun _ _ _ h => h) (Or.inl ⟨by rfl, ?tky1019⟩) hH0 ?tkr1019
        case tky1019 => (intro w' hSw; clear hSw; go_simp; try with_reducible rfl)
        try simp only [Act.put, List.setIfInBounds_toArray, List.set_cons_zero, List.set_cons_succ]
        refine wpAnyH_ready (rs := [5, 16]) (by kernel_rfl) (by simp) ?_
        refine AllReadyH.cons (o := { dst := some 81, op := Op.call { callee := Callee.value (Operand.func 16), args := #[Operand.tmp 76, Operand.tmp 80], argTypes := #[23, 3] }, type := 22, pos := "law.go:80", after := #[{ on := 0, ground := Ground.data }, { on := 4, ground := Ground.data }], guard := none }) rfl (fun K hK => ?_) (AllReadyH.cons (o := { dst := some 92, op := Op.makeSlice 22 (Operand.tmp 91) (Operand.tmp 91), type := 22, pos := "law.go:80", after := #[{ on := 15, ground := Ground.data }, { on := 15, ground := Ground.data }], guard := none }) rfl (fun K hK => ?_) AllReadyH.nil)
        · go_simp
          refine (join_at w.heap.size w1.heap.size c c _ _ (hS1.out.rows.below (hEnd.trans ((hH0).mono hEnd.size))) (by omega) (hEnd.trans ((hH0).mono hEnd.size)).size (splitRows_big l s c _ (by omega)) M).mono ?_
          rw [hJ2.out]
          rintro e w3 ⟨A3, n3, c3, rfl, hn3, hown3, hb5⟩
          have hk3 := Lib.hid (conv_own c3 hown3)
          clear hn3 hown3
          go_wp2_with fail
          refine hK.out _ _ ((hH0).trans (hb5.mono (hH0).size)) (fun hH1020 => ?_)
          clear hK K
          try simp only [Act.put, List.setIfInBounds_toArray, List.set_cons_zero, List.set_cons_succ]
          have hG1020 : (fun W => Below w2.heap.size w2 W ∧ Below w3.heap.size w3 W) w3 := ⟨hH1020, Below.refl _ _⟩
          refine wpAnyH_grow (S' := (fun W => Below w2.heap.size w2 W ∧ Below w3.heap.size w3 W)) (fun _ h => h.1) _ _ _ _ ?_
          refine wpAnyH_take (i := 6) (oi := { dst := some 82, op := Op.convert 22 9 (Operand.tmp 81), type := 9, pos := "law.go:80", after := #[{ on := 5, ground := Ground.data }], guard := none }) (v := ?tkv1021) rfl (by kernel_rfl) (by kernel_rfl) (by kernel_rfl) (fun _ _ _ h => h) (Or.inl ⟨by rfl, ?tky1021⟩) hG1020 ?tkr1021
          case tky1021 => (intro w' hSw; have z0 := hkl2.out _ hSw.1; have z1 := hk3.out _ hSw.2; clear hSw; go_simp; try with_reducible rfl)
          try simp only [Act.put, List.setIfInBounds_toArray, List.set_cons_zero, List.set_cons_succ]
          refine wpAnyH_ready (rs := [16]) (by kernel_rfl) (by simp) ?_
          refine AllReadyH.cons (o := { dst := some 92, op := Op.makeSlice 22 (Operand.tmp 91) (Operand.tmp 91), type := 22, pos := "law.go:80", after := #[{ on := 15, ground := Ground.data }, { on := 15, ground := Ground.data }], guard := none }) rfl (fun K hK => ?_) AllReadyH.nil
          go_simp
          have hb16 : Below w3.heap.size w3 (w3.alloc (.cells (Array.replicate N (.int .u8 0)) 5)) := (Below.refl _ _).alloc (Nat.le_refl _) _
          have hk4 := Lib.hid (conv_zero N w3)
          generalize hgw : (w3.alloc (.cells (Array.replicate N (.int .u8 0)) 5)) = w4 at *
          generalize hgn : w3.heap.size = z4 at hk4
          clear hgw
          refine hK.out _ _ (⟨(hG1020.1).trans (hb16.mono (hG1020.1).size), (hG1020.2).trans (hb16.mono (hG1020.2).size)⟩) (fun hH1022 => ?_)
          clear hK K
          try simp only [Act.put, List.setIfInBounds_toArray, List.set_cons_zero, List.set_cons_succ]
          have hG1022 : (fun W => Below w2.heap.size w2 W ∧ Below w3.heap.size w3 W ∧ Below w4.heap.size w4 W) w4 := ⟨hH1022.1, hH1022.2, Below.refl _ _⟩
          refine wpAnyH_grow (S' := (fun W => Below w2.heap.size w2 W ∧ Below w3.heap.size w3 W ∧ Below w4.heap.size w4 W)) (fun _ h => ⟨h.1, h.2.1⟩) _ _ _ _ ?_
          refine wpAnyH_take (i := 17) (oi := { dst := some 93, op := Op.convert 22 9 (Operand.tmp 92), type := 9, pos := "law.go:80", after := #[{ on := 16, ground := Ground.data }], guard := none }) (v := ?tkv1023) rfl (by kernel_rfl) (by kernel_rfl) (by kernel_rfl) (fun _ _ _ h => h) (Or.inl ⟨by rfl, ?tky1023⟩) hG1022 ?tkr1023
          case tky1023 => (intro w' hSw; have z0 := hkl2.out _ hSw.1; have z1 := hk3.out _ hSw.2.1; have z2 := hk4.out _ hSw.2.2; clear hSw; go_simp; try with_reducible rfl)
          try simp only [Act.put, List.setIfInBounds_toArray, List.set_cons_zero, List.set_cons_succ]
          refine wpAnyH_take (i := 18) (oi := { dst := some 94, op := Op.binOp BinOp.add 9 (Operand.tmp 84) (Operand.tmp 93) 9, type := 9, pos := "law.go:80", after := #[{ on := 8, ground := Ground.data }, { on := 17, ground := Ground.data }], guard := none }) (v := ?tkv1024) rfl (by kernel_rfl) (by kernel_rfl) (by kernel_rfl) (fun _ _ _ h => h) (Or.inl ⟨by rfl, ?tky1024⟩) hG1022 ?tkr1024
          case tky1024 => (intro w' hSw; clear hSw; go_simp; try with_reducible rfl)
          try simp only [Act.put, List.setIfInBounds_toArray, List.set_cons_zero, List.set_cons_succ]
          refine wpAnyH_take (i := 19) (oi := { dst := some 95, op := Op.binOp BinOp.eql 9 (Operand.tmp 82) (Operand.tmp 94) 9, type := 4, pos := "law.go:80", after := #[{ on := 6, ground := Ground.data }, { on := 18, ground := Ground.data }], guard := none }) (v := ?tkv1025) rfl (by kernel_rfl) (by kernel_rfl) (by kernel_rfl) (fun _ _ _ h => h) (Or.inl ⟨by rfl, ?tky1025⟩) hG1022 ?tkr1025
          case tky1025 => (intro w' hSw; clear hSw; go_simp; try with_reducible rfl)
          try simp only [Act.put, List.setIfInBounds_toArray, List.set_cons_zero, List.set_cons_succ]
          refine wpAnyH_take (i := 25) (oi := { dst := some 101, op := Op.binOp BinOp.eql 4 (Operand.tmp 95) (Operand.tmp 100) 4, type := 4, pos := "law.go:80", after := #[{ on := 19, ground := Ground.data }, { on := 24, ground := Ground.data }], guard := none }) (v := ?tkv1026) rfl (by kernel_rfl) (by kernel_rfl) (by kernel_rfl) (fun _ _ _ h => h) (Or.inl ⟨by rfl, ?tky1026⟩) hG1022 ?tkr1026
          case tky1026 => (intro w' hSw; clear hSw; go_simp; try with_reducible rfl)
          try simp only [Act.put, List.setIfInBounds_toArray, List.set_cons_zero, List.set_cons_succ]
          refine wpAnyH_take (i := 26) (oi := { dst := some 102, op := Op.move (Operand.tmp 101), type := 4, pos := "law.go:80", after := #[{ on := 25, ground := Ground.data }, { on := 5, ground := Ground.chain }], guard := none }) (v := ?tkv1027) rfl (by kernel_rfl) (by kernel_rfl) (by kernel_rfl) (fun _ _ _ h => h) (Or.inl ⟨by rfl, ?tky1027⟩) hG1022 ?tkr1027
          case tky1027 => (intro w' hSw; clear hSw; go_simp; try with_reducible rfl)
          try simp only [Act.put, List.setIfInBounds_toArray, List.set_cons_zero, List.set_cons_succ]
          refine wpAnyH_ready (rs := [27]) (by kernel_rfl) (by simp) ?_
          refine AllReadyH.cons (o := { dst := some 103, op := Op.call { callee := Callee.value (Operand.func 10), args := #[], argTypes := #[] }, type := 4, pos := "law.go:80", after := #[{ on := 26, ground := Ground.chain }, { on := 26, ground := Ground.guard }], guard := some (26, true) }) rfl (fun K hK => ?_) AllReadyH.nil
          go_simp
          refine (awake10_any _).mono ?_
          rintro e w5 ⟨rfl, hb27⟩
          go_wp2_with fail
          refine hK.out _ _ (⟨(hG1022.1).trans (hb27.mono (hG1022.1).size), (hG1022.2.1).trans (hb27.mono (hG1022.2.1).size), (hG1022.2.2).trans (hb27.mono (hG1022.2.2).size)⟩) (fun hH1028 => ?_)
          clear hK K
          try simp only [Act.put, List.setIfInBounds_toArray, List.set_cons_zero, List.set_cons_succ]
          have hG1028 : (fun W => Below w2.heap.size w2 W ∧ Below w3.heap.size w3 W ∧ Below w4.heap.size w4 W ∧ Below w5.heap.size w5 W) w5 := ⟨hH1028.1, hH1028.2.1, hH1028.2.2, Below.refl _ _⟩
          refine wpAnyH_grow (S' := (fun W => Below w2.heap.size w2 W ∧ Below w3.heap.size w3 W ∧ Below w4.heap.size w4 W ∧ Below w5.heap.size w5 W)) (fun _ h => ⟨h.1, h.2.1, h.2.2.1⟩) _ _ _ _ ?_
          refine wpAnyH_take (i := 28) (oi := { dst := some 104, op := Op.pick (Operand.tmp 102) (Operand.tmp 103) (Operand.const (Value.bool false)), type := 4, pos := "law.go:80", after := #[{ on := 26, ground := Ground.data }, { on := 27, ground := Ground.data }], guard := none }) (v := ?tkv1029) rfl (by kernel_rfl) (by kernel_rfl) (by kernel_rfl) (fun _ _ _ h => h) (Or.inl ⟨by rfl, ?tky1029⟩) hG1028 ?tkr1029
          case tky1029 => (intro w' hSw; clear hSw; go_simp; try with_reducible rfl)
          try simp only [Act.put, List.setIfInBounds_toArray, List.set_cons_zero, List.set_cons_succ]
          refine wpAnyH_take (i := 29) (oi := { dst := some 4, op := Op.assign (Operand.tmp 104), type := 4, pos := "law.go:80", after := #[{ on := 28, ground := Ground.data }, { on := 27, ground := Ground.chain }, { on := 0, ground := Ground.phase }, { on := 1, ground := Ground.phase }, { on := 2, ground := Ground.phase }, { on := 3, ground := Ground.phase }, { on := 4, ground := Ground.phase }, { on := 5, ground := Ground.phase }, { on := 6, ground := Ground.phase }, { on := 7, ground := Ground.phase }, { on := 8, ground := Ground.phase }, { on := 9, ground := Ground.phase }, { on := 10, ground := Ground.phase }, { on := 11, ground := Ground.phase }, { on := 12, ground := Ground.phase }, { on := 13, ground := Ground.phase }, { on := 14, ground := Ground.phase }, { on := 15, ground := Ground.phase }, { on := 16, ground := Ground.phase }, { on := 17, ground := Ground.phase }, { on := 18, ground := Ground.phase }, { on := 19, ground := Ground.phase }, { on := 20, ground := Ground.phase }, { on := 21, ground := Ground.phase }, { on := 22, ground := Ground.phase }, { on := 23, ground := Ground.phase }, { on := 24, ground := Ground.phase }, { on := 25, ground := Ground.phase }, { on := 26, ground := Ground.phase }, { on := 27, ground := Ground.phase }, { on := 28, ground := Ground.phase }], guard := none }) (v := ?tkv1030) rfl (by kernel_rfl) (by kernel_rfl) (by kernel_rfl) (fun _ _ _ h => h) (Or.inl ⟨by rfl, ?tky1030⟩) hG1028 ?tkr1030
          case tky1030 => (intro w' hSw; clear hSw; go_simp; try with_reducible rfl)
          try simp only [Act.put, List.setIfInBounds_toArray, List.set_cons_zero, List.set_cons_succ]
          refine wpAnyH_done (by kernel_rfl) ?_ _
          refine NoPanic.normal ?_
          have hEnd0 : Below w2.heap.size w2 _ := hG1028.1
          go_wp2_with fail
          go_ret
          exact ⟨rfl, hB2.trans (hEnd0.mono hB2.size)⟩
        · go_simp
          have hb16 : Below wd.heap.size wd (wd.alloc (.cells (Array.replicate N (.int .u8 0)) 5)) := (Below.refl _ _).alloc (Nat.le_refl _) _
          have hk4 := Lib.hid (conv_zero N wd)
          generalize hgw : (wd.alloc (.cells (Array.replicate N (.int .u8 0)) 5)) = w4 at *
          generalize hgn : wd.heap.size = z4 at hk4
          clear hgw
          refine hK.out _ _ ((hH0).trans (hb16.mono (hH0).size)) (fun hH1031 => ?_)
          clear hK K
          try simp only [Act.put, List.setIfInBounds_toArray, List.set_cons_zero, List.set_cons_succ]
          have hG1031 : (fun W => Below w2.heap.size w2 W ∧ Below w4.heap.size w4 W) w4 := ⟨hH1031, Below.refl _ _⟩
          refine wpAnyH_grow (S' := (fun W => Below w2.heap.size w2 W ∧ Below w4.heap.size w4 W)) (fun _ h => h.1) _ _ _ _ ?_
          refine wpAnyH_take (i := 17) (oi := { dst := some 93, op := Op.convert 22 9 (Operand.tmp 92), type := 9, pos := "law.go:80", after := #[{ on := 16, ground := Ground.data }], guard := none }) (v := ?tkv1032) rfl (by kernel_rfl) (by kernel_rfl) (by kernel_rfl) (fun _ _ _ h => h) (Or.inl ⟨by rfl, ?tky1032⟩) hG1031 ?tkr1032
          case tky1032 => (intro w' hSw; have z0 := hkl2.out _ hSw.1; have z1 := hk4.out _ hSw.2; clear hSw; go_simp; try with_reducible rfl)
          try simp only [Act.put, List.setIfInBounds_toArray, List.set_cons_zero, List.set_cons_succ]
          refine wpAnyH_take (i := 18) (oi := { dst := some 94, op := Op.binOp BinOp.add 9 (Operand.tmp 84) (Operand.tmp 93) 9, type := 9, pos := "law.go:80", after := #[{ on := 8, ground := Ground.data }, { on := 17, ground := Ground.data }], guard := none }) (v := ?tkv1033) rfl (by kernel_rfl) (by kernel_rfl) (by kernel_rfl) (fun _ _ _ h => h) (Or.inl ⟨by rfl, ?tky1033⟩) hG1031 ?tkr1033
          case tky1033 => (intro w' hSw; clear hSw; go_simp; try with_reducible rfl)
          try simp only [Act.put, List.setIfInBounds_toArray, List.set_cons_zero, List.set_cons_succ]
          refine wpAnyH_ready (rs := [5]) (by kernel_rfl) (by simp) ?_
          refine AllReadyH.cons (o := { dst := some 81, op := Op.call { callee := Callee.value (Operand.func 16), args := #[Operand.tmp 76, Operand.tmp 80], argTypes := #[23, 3] }, type := 22, pos := "law.go:80", after := #[{ on := 0, ground := Ground.data }, { on := 4, ground := Ground.data }], guard := none }) rfl (fun K hK => ?_) AllReadyH.nil
          go_simp
          refine (join_at w.heap.size w1.heap.size c c _ _ (hS1.out.rows.below (hEnd.trans ((hG1031.1).mono hEnd.size))) (by omega) (hEnd.trans ((hG1031.1).mono hEnd.size)).size (splitRows_big l s c _ (by omega)) M).mono ?_
          rw [hJ2.out]
          rintro e w3 ⟨A3, n3, c3, rfl, hn3, hown3, hb5⟩
          have hk3 := Lib.hid (conv_own c3 hown3)
          clear hn3 hown3
          go_wp2_with fail
          refine hK.out _ _ (⟨(hG1031.1).trans (hb5.mono (hG1031.1).size), (hG1031.2).trans (hb5.mono (hG1031.2).size)⟩) (fun hH1034 => ?_)
          clear hK K
          try simp only [Act.put, List.setIfInBounds_toArray, List.set_cons_zero, List.set_cons_succ]
          have hG1034 : (fun W => Below w2.heap.size w2 W ∧ Below w4.heap.size w4 W ∧ Below w3.heap.size w3 W) w3 := ⟨hH1034.1, hH1034.2, Below.refl _ _⟩
          refine wpAnyH_grow (S' := (fun W => Below w2.heap.size w2 W ∧ Below w4.heap.size w4 W ∧ Below w3.heap.size w3 W)) (fun _ h => ⟨h.1, h.2.1⟩) _ _ _ _ ?_
          refine wpAnyH_take (i := 6) (oi := { dst := some 82, op := Op.convert 22 9 (Operand.tmp 81), type := 9, pos := "law.go:80", after := #[{ on := 5, ground := Ground.data }], guard := none }) (v := ?tkv1035) rfl (by kernel_rfl) (by kernel_rfl) (by kernel_rfl) (fun _ _ _ h => h) (Or.inl ⟨by rfl, ?tky1035⟩) hG1034 ?tkr1035
          case tky1035 => (intro w' hSw; have z0 := hkl2.out _ hSw.1; have z1 := hk4.out _ hSw.2.1; have z2 := hk3.out _ hSw.2.2; clear hSw; go_simp; try with_reducible rfl)
          try simp only [Act.put, List.setIfInBounds_toArray, List.set_cons_zero, List.set_cons_succ]
          refine wpAnyH_take (i := 19) (oi := { dst := some 95, op := Op.binOp BinOp.eql 9 (Operand.tmp 82) (Operand.tmp 94) 9, type := 4, pos := "law.go:80", after := #[{ on := 6, ground := Ground.data }, { on := 18, ground := Ground.data }], guard := none }) (v := ?tkv1036) rfl (by kernel_rfl) (by kernel_rfl) (by kernel_rfl) (fun _ _ _ h => h) (Or.inl ⟨by rfl, ?tky1036⟩) hG1034 ?tkr1036
          case tky1036 => (intro w' hSw; clear hSw; go_simp; try with_reducible rfl)
          try simp only [Act.put, List.setIfInBounds_toArray, List.set_cons_zero, List.set_cons_succ]
          refine wpAnyH_take (i := 25) (oi := { dst := some 101, op := Op.binOp BinOp.eql 4 (Operand.tmp 95) (Operand.tmp 100) 4, type := 4, pos := "law.go:80", after := #[{ on := 19, ground := Ground.data }, { on := 24, ground := Ground.data }], guard := none }) (v := ?tkv1037) rfl (by kernel_rfl) (by kernel_rfl) (by kernel_rfl) (fun _ _ _ h => h) (Or.inl ⟨by rfl, ?tky1037⟩) hG1034 ?tkr1037
          case tky1037 => (intro w' hSw; clear hSw; go_simp; try with_reducible rfl)
          try simp only [Act.put, List.setIfInBounds_toArray, List.set_cons_zero, List.set_cons_succ]
          refine wpAnyH_take (i := 26) (oi := { dst := some 102, op := Op.move (Operand.tmp 101), type := 4, pos := "law.go:80", after := #[{ on := 25, ground := Ground.data }, { on := 5, ground := Ground.chain }], guard := none }) (v := ?tkv1038) rfl (by kernel_rfl) (by kernel_rfl) (by kernel_rfl) (fun _ _ _ h => h) (Or.inl ⟨by rfl, ?tky1038⟩) hG1034 ?tkr1038
          case tky1038 => (intro w' hSw; clear hSw; go_simp; try with_reducible rfl)
          try simp only [Act.put, List.setIfInBounds_toArray, List.set_cons_zero, List.set_cons_succ]
          refine wpAnyH_ready (rs := [27]) (by kernel_rfl) (by simp) ?_
          refine AllReadyH.cons (o := { dst := some 103, op := Op.call { callee := Callee.value (Operand.func 10), args := #[], argTypes := #[] }, type := 4, pos := "law.go:80", after := #[{ on := 26, ground := Ground.chain }, { on := 26, ground := Ground.guard }], guard := some (26, true) }) rfl (fun K hK => ?_) AllReadyH.nil
          go_simp
          refine (awake10_any _).mono ?_
          rintro e w5 ⟨rfl, hb27⟩
          go_wp2_with fail
          refine hK.out _ _ (⟨(hG1034.1).trans (hb27.mono (hG1034.1).size), (hG1034.2.1).trans (hb27.mono (hG1034.2.1).size), (hG1034.2.2).trans (hb27.mono (hG1034.2.2).size)⟩) (fun hH1039 => ?_)
          clear hK K
          try simp only [Act.put, List.setIfInBounds_toArray, List.set_cons_zero, List.set_cons_succ]
          have hG1039 : (fun W => Below w2.heap.size w2 W ∧ Below w4.heap.size w4 W ∧ Below w3.heap.size w3 W ∧ Below w5.heap.size w5 W) w5 := ⟨hH1039.1, hH1039.2.1, hH1039.2.2, Below.refl _ _⟩
          refine wpAnyH_grow (S' := (fun W => Below w2.heap.size w2 W ∧ Below w4.heap.size w4 W ∧ Below w3.heap.size w3 W ∧ Below w5.heap.size w5 W)) (fun _ h => ⟨h.1, h.2.1, h.2.2.1⟩) _ _ _ _ ?_
          refine wpAnyH_take (i := 28) (oi := { dst := some 104, op := Op.pick (Operand.tmp 102) (Operand.tmp 103) (Operand.const (Value.bool false)), type := 4, pos := "law.go:80", after := #[{ on := 26, ground := Ground.data }, { on := 27, ground := Ground.data }], guard := none }) (v := ?tkv1040) rfl (by kernel_rfl) (by kernel_rfl) (by kernel_rfl) (fun _ _ _ h => h) (Or.inl ⟨by rfl, ?tky1040⟩) hG1039 ?tkr1040
          case tky1040 => (intro w' hSw; clear hSw; go_simp; try with_reducible rfl)
          try simp only [Act.put, List.setIfInBounds_toArray, List.set_cons_zero, List.set_cons_succ]
          refine wpAnyH_take (i := 29) (oi := { dst := some 4, op := Op.assign (Operand.tmp 104), type := 4, pos := "law.go:80", after := #[{ on := 28, ground := Ground.data }, { on := 27, ground := Ground.chain }, { on := 0, ground := Ground.phase }, { on := 1, ground := Ground.phase }, { on := 2, ground := Ground.phase }, { on := 3, ground := Ground.phase }, { on := 4, ground := Ground.phase }, { on := 5, ground := Ground.phase }, { on := 6, ground := Ground.phase }, { on := 7, ground := Ground.phase }, { on := 8, ground := Ground.phase }, { on := 9, ground := Ground.phase }, { on := 10, ground := Ground.phase }, { on := 11, ground := Ground.phase }, { on := 12, ground := Ground.phase }, { on := 13, ground := Ground.phase }, { on := 14, ground := Ground.phase }, { on := 15, ground := Ground.phase }, { on := 16, ground := Ground.phase }, { on := 17, ground := Ground.phase }, { on := 18, ground := Ground.phase }, { on := 19, ground := Ground.phase }, { on := 20, ground := Ground.phase }, { on := 21, ground := Ground.phase }, { on := 22, ground := Ground.phase }, { on := 23, ground := Ground.phase }, { on := 24, ground := Ground.phase }, { on := 25, ground := Ground.phase }, { on := 26, ground := Ground.phase }, { on := 27, ground := Ground.phase }, { on := 28, ground := Ground.phase }], guard := none }) (v := ?tkv1041) rfl (by kernel_rfl) (by kernel_rfl) (by kernel_rfl) (fun _ _ _ h => h) (Or.inl ⟨by rfl, ?tky1041⟩) hG1039 ?tkr1041
          case tky1041 => (intro w' hSw; clear hSw; go_simp; try with_reducible rfl)
          try simp only [Act.put, List.setIfInBounds_toArray, List.set_cons_zero, List.set_cons_succ]
          refine wpAnyH_done (by kernel_rfl) ?_ _
          refine NoPanic.normal ?_
          have hEnd0 : Below w2.heap.size w2 _ := hG1039.1
          go_wp2_with fail
          go_ret
          exact ⟨rfl, hB2.trans (hEnd0.mono hB2.size)⟩
      · have hJ2 := Lib.hid (fun gg => (hJJ gg).trans (if_neg h5))
        have h5i : ¬ (M : Int) ≤ 512 := by omega
        obtain ⟨hl1, hl2⟩ := hl0.out
        clear hJJ
        refine wp_region_noPanic ?_
        refine wp_region_held_drew (S := (fun W => Below w2.heap.size w2 W)) (by kernel_rfl) (Below.refl _ _).drew (fun hH0 => ?_)
        have hH0 : Below w2.heap.size w2 w2.drew := hH0
        generalize w2.drew = wd at *
        refine wpAnyH_take (i := 0) (oi := { dst := some 76, op := Op.move (Operand.tmp 5), type := 23, pos := "law.go:80", after := #[], guard := none }) (v := ?tkv2001) rfl (by kernel_rfl) (by kernel_rfl) (by kernel_rfl) (fun _ _ _ h => h) (Or.inl ⟨by rfl, ?tky2001⟩) hH0 ?tkr2001
        case tky2001 => (intro w' hSw; clear hSw; go_simp; try with_reducible rfl)
        try simp only [Act.put, List.setIfInBounds_toArray, List.set_cons_zero, List.set_cons_succ]
        refine wpAnyH_take (i := 1) (oi := { dst := some 77, op := Op.move (Operand.tmp 5), type := 23, pos := "law.go:80", after := #[], guard := none }) (v := ?tkv2002) rfl (by kernel_rfl) (by kernel_rfl) (by kernel_rfl) (fun _ _ _ h => h) (Or.inl ⟨by rfl, ?tky2002⟩) hH0 ?tkr2002
        case tky2002 => (intro w' hSw; clear hSw; go_simp; try with_reducible rfl)
        try simp only [Act.put, List.setIfInBounds_toArray, List.set_cons_zero, List.set_cons_succ]
        refine wpAnyH_take (i := 2) (oi := { dst := some 78, op := Op.call { callee := Callee.builtin Builtin.len, args := #[Operand.tmp 77], argTypes := #[23] }, type := 3, pos := "law.go:80", after := #[{ on := 1, ground := Ground.data }], guard := none }) (v := ?tkv2003) rfl (by kernel_rfl) (by kernel_rfl) (by kernel_rfl) (fun _ _ _ h => h) (Or.inl ⟨by rfl, ?tky2003⟩) hH0 ?tkr2003
        case tky2003 => (intro w' hSw; clear hSw; go_simp; try with_reducible rfl)
        try simp only [Act.put, List.setIfInBounds_toArray, List.set_cons_zero, List.set_cons_succ]
        refine wpAnyH_take (i := 3) (oi := { dst := some 79, op := Op.move (Operand.tmp 1), type := 3, pos := "law.go:80", after := #[], guard := none }) (v := ?tkv2004) rfl (by kernel_rfl) (by kernel_rfl) (by kernel_rfl) (fun _ _ _ h => h) (Or.inl ⟨by rfl, ?tky2004⟩) hH0 ?tkr2004
        case tky2004 => (intro w' hSw; clear hSw; go_simp; try with_reducible rfl)
        try simp only [Act.put, List.setIfInBounds_toArray, List.set_cons_zero, List.set_cons_succ]
        refine wpAnyH_take (i := 4) (oi := { dst := some 80, op := Op.binOp BinOp.mul 3 (Operand.tmp 78) (Operand.tmp 79) 3, type := 3, pos := "law.go:80", after := #[{ on := 2, ground := Ground.data }, { on := 3, ground := Ground.data }], guard := none }) (v := ?tkv2005) rfl (by kernel_rfl) (by kernel_rfl) (by kernel_rfl) (fun _ _ _ h => h) (Or.inl ⟨by rfl, ?tky2005⟩) hH0 ?tkr2005
        case tky2005 => (intro w' hSw; clear hSw; go_simp; try with_reducible rfl)
        try simp only [Act.put, List.setIfInBounds_toArray, List.set_cons_zero, List.set_cons_succ]
        refine wpAnyH_take (i := 7) (oi := { dst := some 83, op := Op.move (Operand.tmp 0), type := 22, pos := "law.go:80", after := #[], guard := none }) (v := ?tkv2006) rfl (by kernel_rfl) (by kernel_rfl) (by kernel_rfl) (fun _ _ _ h => h) (Or.inl ⟨by rfl, ?tky2006⟩) hH0 ?tkr2006
        case tky2006 => (intro w' hSw; clear hSw; go_simp; try with_reducible rfl)
        try simp only [Act.put, List.setIfInBounds_toArray, List.set_cons_zero, List.set_cons_succ]
        refine wpAnyH_take (i := 8) (oi := { dst := some 84, op := Op.convert 22 9 (Operand.tmp 83), type := 9, pos := "law.go:80", after := #[{ on := 7, ground := Ground.data }], guard := none }) (v := ?tkv2007) rfl (by kernel_rfl) (by kernel_rfl) (by kernel_rfl) (fun _ _ _ h => h) (Or.inl ⟨by rfl, ?tky2007⟩) hH0 ?tkr2007
        case tky2007 => (intro w' hSw; have z0 := hkl2.out _ hSw; clear hSw; go_simp; try with_reducible rfl)
        try simp only [Act.put, List.setIfInBounds_toArray, List.set_cons_zero, List.set_cons_succ]
        refine wpAnyH_take (i := 9) (oi := { dst := some 85, op := Op.move (Operand.tmp 5), type := 23, pos := "law.go:80", after := #[], guard := none }) (v := ?tkv2008) rfl (by kernel_rfl) (by kernel_rfl) (by kernel_rfl) (fun _ _ _ h => h) (Or.inl ⟨by rfl, ?tky2008⟩) hH0 ?tkr2008
        case tky2008 => (intro w' hSw; clear hSw; go_simp; try with_reducible rfl)
        try simp only [Act.put, List.setIfInBounds_toArray, List.set_cons_zero, List.set_cons_succ]
        refine wpAnyH_take (i := 10) (oi := { dst := some 86, op := Op.call { callee := Callee.builtin Builtin.len, args := #[Operand.tmp 85], argTypes := #[23] }, type := 3, pos := "law.go:80", after := #[{ on := 9, ground := Ground.data }], guard := none }) (v := ?tkv2009) rfl (by kernel_rfl) (by kernel_rfl) (by kernel_rfl) (fun _ _ _ h => h) (Or.inl ⟨by rfl, ?tky2009⟩) hH0 ?tkr2009
        case tky2009 => (intro w' hSw; clear hSw; go_simp; try with_reducible rfl)
        try simp only [Act.put, List.setIfInBounds_toArray, List.set_cons_zero, List.set_cons_succ]
        refine wpAnyH_take (i := 11) (oi := { dst := some 87, op := Op.move (Operand.tmp 1), type := 3, pos := "law.go:80", after := #[], guard := none }) (v := ?tkv2010) rfl (by kernel_rfl) (by kernel_rfl) (by kernel_rfl) (fun _ _ _ h => h) (Or.inl ⟨by rfl, ?tky2010⟩) hH0 ?tkr2010
        case tky2010 => (intro w' hSw; clear hSw; go_simp; try with_reducible rfl)
        try simp only [Act.put, List.setIfInBounds_toArray, List.set_cons_zero, List.set_cons_succ]
        refine wpAnyH_take (i := 12) (oi := { dst := some 88, op := Op.binOp BinOp.mul 3 (Operand.tmp 86) (Operand.tmp 87) 3, type := 3, pos := "law.go:80", after := #[{ on := 10, ground := Ground.data }, { on := 11, ground := Ground.data }], guard := none }) (v := ?tkv2011) rfl (by kernel_rfl) (by kernel_rfl) (by kernel_rfl) (fun _ _ _ h => h) (Or.inl ⟨by rfl, ?tky2011⟩) hH0 ?tkr2011
        case tky2011 => (intro w' hSw; clear hSw; go_simp; try with_reducible rfl)
        try simp only [Act.put, List.setIfInBounds_toArray, List.set_cons_zero, List.set_cons_succ]
        refine wpAnyH_take (i := 13) (oi := { dst := some 89, op := Op.move (Operand.tmp 0), type := 22, pos := "law.go:80", after := #[], guard := none }) (v := ?tkv2012) rfl (by kernel_rfl) (by kernel_rfl) (by kernel_rfl) (fun _ _ _ h => h) (Or.inl ⟨by rfl, ?tky2012⟩) hH0 ?tkr2012
        case tky2012 => (intro w' hSw; clear hSw; go_simp; try with_reducible rfl)
        try simp only [Act.put, List.setIfInBounds_toArray, List.set_cons_zero, List.set_cons_succ]
        refine wpAnyH_take (i := 14) (oi := { dst := some 90, op := Op.call { callee := Callee.builtin Builtin.len, args := #[Operand.tmp 89], argTypes := #[22] }, type := 3, pos := "law.go:80", after := #[{ on := 13, ground := Ground.data }], guard := none }) (v := ?tkv2013) rfl (by kernel_rfl) (by kernel_rfl) (by kernel_rfl) (fun _ _ _ h => h) (Or.inl ⟨by rfl, ?tky2013⟩) hH0 ?tkr2013
        case tky2013 => (intro w' hSw; clear hSw; go_simp; try with_reducible rfl)
        try simp only [Act.put, List.setIfInBounds_toArray, List.set_cons_zero, List.set_cons_succ]
        refine wpAnyH_take (i := 15) (oi := { dst := some 91, op := Op.binOp BinOp.sub 3 (Operand.tmp 88) (Operand.tmp 90) 3, type := 3, pos := "law.go:80", after := #[{ on := 12, ground := Ground.data }, { on := 14, ground := Ground.data }], guard := none }) (v := ?tkv2014) rfl (by kernel_rfl) (by kernel_rfl) (by kernel_rfl) (fun _ _ _ h => h) (Or.inl ⟨by rfl, ?tky2014⟩) hH0 ?tkr2014
        case tky2014 => (intro w' hSw; clear hSw; go_simp; try with_reducible rfl)
        try simp only [Act.put, List.setIfInBounds_toArray, List.set_cons_zero, List.set_cons_succ]
        refine wpAnyH_take (i := 20) (oi := { dst := some 96, op := Op.move (Operand.tmp 5), type := 23, pos := "law.go:80", after := #[], guard := none }) (v := ?tkv2015) rfl (by kernel_rfl) (by kernel_rfl) (by kernel_rfl) (fun _ _ _ h => h) (Or.inl ⟨by rfl, ?tky2015⟩) hH0 ?tkr2015
        case tky2015 => (intro w' hSw; clear hSw; go_simp; try with_reducible rfl)
        try simp only [Act.put, List.setIfInBounds_toArray, List.set_cons_zero, List.set_cons_succ]
        refine wpAnyH_take (i := 21) (oi := { dst := some 97, op := Op.call { callee := Callee.builtin Builtin.len, args := #[Operand.tmp 96], argTypes := #[23] }, type := 3, pos := "law.go:80", after := #[{ on := 20, ground := Ground.data }], guard := none }) (v := ?tkv2016) rfl (by kernel_rfl) (by kernel_rfl) (by kernel_rfl) (fun _ _ _ h => h) (Or.inl ⟨by rfl, ?tky2016⟩) hH0 ?tkr2016
        case tky2016 => (intro w' hSw; clear hSw; go_simp; try with_reducible rfl)
        try simp only [Act.put, List.setIfInBounds_toArray, List.set_cons_zero, List.set_cons_succ]
        refine wpAnyH_take (i := 22) (oi := { dst := some 98, op := Op.move (Operand.tmp 1), type := 3, pos := "law.go:80", after := #[], guard := none }) (v := ?tkv2017) rfl (by kernel_rfl) (by kernel_rfl) (by kernel_rfl) (fun _ _ _ h => h) (Or.inl ⟨by rfl, ?tky2017⟩) hH0 ?tkr2017
        case tky2017 => (intro w' hSw; clear hSw; go_simp; try with_reducible rfl)
        try simp only [Act.put, List.setIfInBounds_toArray, List.set_cons_zero, List.set_cons_succ]
        refine wpAnyH_take (i := 23) (oi := { dst := some 99, op := Op.binOp BinOp.mul 3 (Operand.tmp 97) (Operand.tmp 98) 3, type := 3, pos := "law.go:80", after := #[{ on := 21, ground := Ground.data }, { on := 22, ground := Ground.data }], guard := none }) (v := ?tkv2018) rfl (by kernel_rfl) (by kernel_rfl) (by kernel_rfl) (fun _ _ _ h => h) (Or.inl ⟨by rfl, ?tky2018⟩) hH0 ?tkr2018
        case tky2018 => (intro w' hSw; clear hSw; go_simp; try with_reducible rfl)
        try simp only [Act.put, List.setIfInBounds_toArray, List.set_cons_zero, List.set_cons_succ]
        refine wpAnyH_take (i := 24) (oi := { dst := some 100, op := Op.binOp BinOp.leq 3 (Operand.tmp 99) (Operand.const (Value.int IntKind.i64 512)) 3, type := 4, pos := "law.go:80", after := #[{ on := 23, ground := Ground.data }], guard := none }) (v := ?tkv2019) rfl (by kernel_rfl) (by kernel_rfl) (by kernel_rfl) (fun _ _ _ h => h) (Or.inl ⟨by rfl, ?tky2019⟩) hH0 ?tkr2019
        case tky2019 => (intro w' hSw; clear hSw; go_simp; try with_reducible rfl)
        try simp only [Act.put, List.setIfInBounds_toArray, List.set_cons_zero, List.set_cons_succ]
        refine wpAnyH_ready (rs := [5, 16]) (by kernel_rfl) (by simp) ?_
        refine AllReadyH.cons (o := { dst := some 81, op := Op.call { callee := Callee.value (Operand.func 16), args := #[Operand.tmp 76, Operand.tmp 80], argTypes := #[23, 3] }, type := 22, pos := "law.go:80", after := #[{ on := 0, ground := Ground.data }, { on := 4, ground := Ground.data }], guard := none }) rfl (fun K hK => ?_) (AllReadyH.cons (o := { dst := some 92, op := Op.makeSlice 22 (Operand.tmp 91) (Operand.tmp 91), type := 22, pos := "law.go:80", after := #[{ on := 15, ground := Ground.data }, { on := 15, ground := Ground.data }], guard := none }) rfl (fun K hK => ?_) AllReadyH.nil)
        · go_simp
          refine (join_at w.heap.size w1.heap.size c c _ _ (hS1.out.rows.below (hEnd.trans ((hH0).mono hEnd.size))) (by omega) (hEnd.trans ((hH0).mono hEnd.size)).size (splitRows_big l s c _ (by omega)) M).mono ?_
          rw [hJ2.out]
          rintro e w3 ⟨A3, n3, c3, rfl, hn3, hown3, hb5⟩
          have hk3 := Lib.hid (conv_own c3 hown3)
          clear hn3 hown3
          go_wp2_with fail
          refine hK.out _ _ ((hH0).trans (hb5.mono (hH0).size)) (fun hH2020 => ?_)
          clear hK K
          try simp only [Act.put, List.setIfInBounds_toArray, List.set_cons_zero, List.set_cons_succ]
          have hG2020 : (fun W => Below w2.heap.size w2 W ∧ Below w3.heap.size w3 W) w3 := ⟨hH2020, Below.refl _ _⟩
          refine wpAnyH_grow (S' := (fun W => Below w2.heap.size w2 W ∧ Below w3.heap.size w3 W)) (fun _ h => h.1) _ _ _ _ ?_
          refine wpAnyH_take (i := 6) (oi := { dst := some 82, op := Op.convert 22 9 (Operand.tmp 81), type := 9, pos := "law.go:80", after := #[{ on := 5, ground := Ground.data }], guard := none }) (v := ?tkv2021) rfl (by kernel_rfl) (by kernel_rfl) (by kernel_rfl) (fun _ _ _ h => h) (Or.inl ⟨by rfl, ?tky2021⟩) hG2020 ?tkr2021
          case tky2021 => (intro w' hSw; have z0 := hkl2.out _ hSw.1; have z1 := hk3.out _ hSw.2; clear hSw; go_simp; try with_reducible rfl)
          try simp only [Act.put, List.setIfInBounds_toArray, List.set_cons_zero, List.set_cons_succ]
          refine wpAnyH_ready (rs := [16]) (by kernel_rfl) (by simp) ?_
          refine AllReadyH.cons (o := { dst := some 92, op := Op.makeSlice 22 (Operand.tmp 91) (Operand.tmp 91), type := 22, pos := "law.go:80", after := #[{ on := 15, ground := Ground.data }, { on := 15, ground := Ground.data }], guard := none }) rfl (fun K hK => ?_) AllReadyH.nil
          go_simp
          have hb16 : Below w3.heap.size w3 (w3.alloc (.cells (Array.replicate N (.int .u8 0)) 5)) := (Below.refl _ _).alloc (Nat.le_refl _) _
          have hk4 := Lib.hid (conv_zero N w3)
          generalize hgw : (w3.alloc (.cells (Array.replicate N (.int .u8 0)) 5)) = w4 at *
          generalize hgn : w3.heap.size = z4 at hk4
          clear hgw
          refine hK.out _ _ (⟨(hG2020.1).trans (hb16.mono (hG2020.1).size), (hG2020.2).trans (hb16.mono (hG2020.2).size)⟩) (fun hH2022 => ?_)
          clear hK K
          try simp only [Act.put, List.setIfInBounds_toArray, List.set_cons_zero, List.set_cons_succ]
          have hG2022 : (fun W => Below w2.heap.size w2 W ∧ Below w3.heap.size w3 W ∧ Below w4.heap.size w4 W) w4 := ⟨hH2022.1, hH2022.2, Below.refl _ _⟩
          refine wpAnyH_grow (S' := (fun W => Below w2.heap.size w2 W ∧ Below w3.heap.size w3 W ∧ Below w4.heap.size w4 W)) (fun _ h => ⟨h.1, h.2.1⟩) _ _ _ _ ?_
          refine wpAnyH_take (i := 17) (oi := { dst := some 93, op := Op.convert 22 9 (Operand.tmp 92), type := 9, pos := "law.go:80", after := #[{ on := 16, ground := Ground.data }], guard := none }) (v := ?tkv2023) rfl (by kernel_rfl) (by kernel_rfl) (by kernel_rfl) (fun _ _ _ h => h) (Or.inl ⟨by rfl, ?tky2023⟩) hG2022 ?tkr2023
          case tky2023 => (intro w' hSw; have z0 := hkl2.out _ hSw.1; have z1 := hk3.out _ hSw.2.1; have z2 := hk4.out _ hSw.2.2; clear hSw; go_simp; try with_reducible rfl)
          try simp only [Act.put, List.setIfInBounds_toArray, List.set_cons_zero, List.set_cons_succ]
          refine wpAnyH_take (i := 18) (oi := { dst := some 94, op := Op.binOp BinOp.add 9 (Operand.tmp 84) (Operand.tmp 93) 9, type := 9, pos := "law.go:80", after := #[{ on := 8, ground := Ground.data }, { on := 17, ground := Ground.data }], guard := none }) (v := ?tkv2024) rfl (by kernel_rfl) (by kernel_rfl) (by kernel_rfl) (fun _ _ _ h => h) (Or.inl ⟨by rfl, ?tky2024⟩) hG2022 ?tkr2024
          case tky2024 => (intro w' hSw; clear hSw; go_simp; try with_reducible rfl)
          try simp only [Act.put, List.setIfInBounds_toArray, List.set_cons_zero, List.set_cons_succ]
          refine wpAnyH_take (i := 19) (oi := { dst := some 95, op := Op.binOp BinOp.eql 9 (Operand.tmp 82) (Operand.tmp 94) 9, type := 4, pos := "law.go:80", after := #[{ on := 6, ground := Ground.data }, { on := 18, ground := Ground.data }], guard := none }) (v := ?tkv2025) rfl (by kernel_rfl) (by kernel_rfl) (by kernel_rfl) (fun _ _ _ h => h) (Or.inl ⟨by rfl, ?tky2025⟩) hG2022 ?tkr2025
          case tky2025 => (intro w' hSw; clear hSw; go_simp; try with_reducible rfl)
          try simp only [Act.put, List.setIfInBounds_toArray, List.set_cons_zero, List.set_cons_succ]
          refine wpAnyH_take (i := 25) (oi := { dst := some 101, op := Op.binOp BinOp.eql 4 (Operand.tmp 95) (Operand.tmp 100) 4, type := 4, pos := "law.go:80", after := #[{ on := 19, ground := Ground.data }, { on := 24, ground := Ground.data }], guard := none }) (v := ?tkv2026) rfl (by kernel_rfl) (by kernel_rfl) (by kernel_rfl) (fun _ _ _ h => h) (Or.inl ⟨by rfl, ?tky2026⟩) hG2022 ?tkr2026
          case tky2026 => (intro w' hSw; clear hSw; go_simp; try with_reducible rfl)
          try simp only [Act.put, List.setIfInBounds_toArray, List.set_cons_zero, List.set_cons_succ]
          refine wpAnyH_take (i := 26) (oi := { dst := some 102, op := Op.move (Operand.tmp 101), type := 4, pos := "law.go:80", after := #[{ on := 25, ground := Ground.data }, { on := 5, ground := Ground.chain }], guard := none }) (v := ?tkv2027) rfl (by kernel_rfl) (by kernel_rfl) (by kernel_rfl) (fun _ _ _ h => h) (Or.inl ⟨by rfl, ?tky2027⟩) hG2022 ?tkr2027
          case tky2027 => (intro w' hSw; clear hSw; go_simp; try with_reducible rfl)
          try simp only [Act.put, List.setIfInBounds_toArray, List.set_cons_zero, List.set_cons_succ]
          refine wpAnyH_ready (rs := [27]) (by kernel_rfl) (by simp) ?_
          refine AllReadyH.cons (o := { dst := some 103, op := Op.call { callee := Callee.value (Operand.func 10), args := #[], argTypes := #[] }, type := 4, pos := "law.go:80", after := #[{ on := 26, ground := Ground.chain }, { on := 26, ground := Ground.guard }], guard := some (26, true) }) rfl (fun K hK => ?_) AllReadyH.nil
          go_simp
          refine (awake10_any _).mono ?_
          rintro e w5 ⟨rfl, hb27⟩
          go_wp2_with fail
          refine hK.out _ _ (⟨(hG2022.1).trans (hb27.mono (hG2022.1).size), (hG2022.2.1).trans (hb27.mono (hG2022.2.1).size), (hG2022.2.2).trans (hb27.mono (hG2022.2.2).size)⟩) (fun hH2028 => ?_)
          clear hK K
          try simp only [Act.put, List.setIfInBounds_toArray, List.set_cons_zero, List.set_cons_succ]
          have hG2028 : (fun W => Below w2.heap.size w2 W ∧ Below w3.heap.size w3 W ∧ Below w4.heap.size w4 W ∧ Below w5.heap.size w5 W) w5 := ⟨hH2028.1, hH2028.2.1, hH2028.2.2, Below.refl _ _⟩
          refine wpAnyH_grow (S' := (fun W => Below w2.heap.size w2 W ∧ Below w3.heap.size w3 W ∧ Below w4.heap.size w4 W ∧ Below w5.heap.size w5 W)) (fun _ h => ⟨h.1, h.2.1, h.2.2.1⟩) _ _ _ _ ?_
          refine wpAnyH_take (i := 28) (oi := { dst := some 104, op := Op.pick (Operand.tmp 102) (Operand.tmp 103) (Operand.const (Value.bool false)), type := 4, pos := "law.go:80", after := #[{ on := 26, ground := Ground.data }, { on := 27, ground := Ground.data }], guard := none }) (v := ?tkv2029) rfl (by kernel_rfl) (by kernel_rfl) (by kernel_rfl) (fun _ _ _ h => h) (Or.inl ⟨by rfl, ?tky2029⟩) hG2028 ?tkr2029
          case tky2029 => (intro w' hSw; clear hSw; go_simp; try with_reducible rfl)
          try simp only [Act.put, List.setIfInBounds_toArray, List.set_cons_zero, List.set_cons_succ]
          refine wpAnyH_take (i := 29) (oi := { dst := some 4, op := Op.assign (Operand.tmp 104), type := 4, pos := "law.go:80", after := #[{ on := 28, ground := Ground.data }, { on := 27, ground := Ground.chain }, { on := 0, ground := Ground.phase }, { on := 1, ground := Ground.phase }, { on := 2, ground := Ground.phase }, { on := 3, ground := Ground.phase }, { on := 4, ground := Ground.phase }, { on := 5, ground := Ground.phase }, { on := 6, ground := Ground.phase }, { on := 7, ground := Ground.phase }, { on := 8, ground := Ground.phase }, { on := 9, ground := Ground.phase }, { on := 10, ground := Ground.phase }, { on := 11, ground := Ground.phase }, { on := 12, ground := Ground.phase }, { on := 13, ground := Ground.phase }, { on := 14, ground := Ground.phase }, { on := 15, ground := Ground.phase }, { on := 16, ground := Ground.phase }, { on := 17, ground := Ground.phase }, { on := 18, ground := Ground.phase }, { on := 19, ground := Ground.phase }, { on := 20, ground := Ground.phase }, { on := 21, ground := Ground.phase }, { on := 22, ground := Ground.phase }, { on := 23, ground := Ground.phase }, { on := 24, ground := Ground.phase }, { on := 25, ground := Ground.phase }, { on := 26, ground := Ground.phase }, { on := 27, ground := Ground.phase }, { on := 28, ground := Ground.phase }], guard := none }) (v := ?tkv2030) rfl (by kernel_rfl) (by kernel_rfl) (by kernel_rfl) (fun _ _ _ h => h) (Or.inl ⟨by rfl, ?tky2030⟩) hG2028 ?tkr2030
          case tky2030 => (intro w' hSw; clear hSw; go_simp; try with_reducible rfl)
          try simp only [Act.put, List.setIfInBounds_toArray, List.set_cons_zero, List.set_cons_succ]
          refine wpAnyH_done (by kernel_rfl) ?_ _
          refine NoPanic.normal ?_
          have hEnd0 : Below w2.heap.size w2 _ := hG2028.1
          go_wp2_with fail
          go_ret
          exact ⟨rfl, hB2.trans (hEnd0.mono hB2.size)⟩
        · go_simp
          have hb16 : Below wd.heap.size wd (wd.alloc (.cells (Array.replicate N (.int .u8 0)) 5)) := (Below.refl _ _).alloc (Nat.le_refl _) _
          have hk4 := Lib.hid (conv_zero N wd)
          generalize hgw : (wd.alloc (.cells (Array.replicate N (.int .u8 0)) 5)) = w4 at *
          generalize hgn : wd.heap.size = z4 at hk4
          clear hgw
          refine hK.out _ _ ((hH0).trans (hb16.mono (hH0).size)) (fun hH2031 => ?_)
          clear hK K
          try simp only [Act.put, List.setIfInBounds_toArray, List.set_cons_zero, List.set_cons_succ]
          have hG2031 : (fun W => Below w2.heap.size w2 W ∧ Below w4.heap.size w4 W) w4 := ⟨hH2031, Below.refl _ _⟩
          refine wpAnyH_grow (S' := (fun W => Below w2.heap.size w2 W ∧ Below w4.heap.size w4 W)) (fun _ h => h.1) _ _ _ _ ?_
          refine wpAnyH_take (i := 17) (oi := { dst := some 93, op := Op.convert 22 9 (Operand.tmp 92), type := 9, pos := "law.go:80", after := #[{ on := 16, ground := Ground.data }], guard := none }) (v := ?tkv2032) rfl (by kernel_rfl) (by kernel_rfl) (by kernel_rfl) (fun _ _ _ h => h) (Or.inl ⟨by rfl, ?tky2032⟩) hG2031 ?tkr2032
          case tky2032 => (intro w' hSw; have z0 := hkl2.out _ hSw.1; have z1 := hk4.out _ hSw.2; clear hSw; go_simp; try with_reducible rfl)
          try simp only [Act.put, List.setIfInBounds_toArray, List.set_cons_zero, List.set_cons_succ]
          refine wpAnyH_take (i := 18) (oi := { dst := some 94, op := Op.binOp BinOp.add 9 (Operand.tmp 84) (Operand.tmp 93) 9, type := 9, pos := "law.go:80", after := #[{ on := 8, ground := Ground.data }, { on := 17, ground := Ground.data }], guard := none }) (v := ?tkv2033) rfl (by kernel_rfl) (by kernel_rfl) (by kernel_rfl) (fun _ _ _ h => h) (Or.inl ⟨by rfl, ?tky2033⟩) hG2031 ?tkr2033
          case tky2033 => (intro w' hSw; clear hSw; go_simp; try with_reducible rfl)
          try simp only [Act.put, List.setIfInBounds_toArray, List.set_cons_zero, List.set_cons_succ]
          refine wpAnyH_ready (rs := [5]) (by kernel_rfl) (by simp) ?_
          refine AllReadyH.cons (o := { dst := some 81, op := Op.call { callee := Callee.value (Operand.func 16), args := #[Operand.tmp 76, Operand.tmp 80], argTypes := #[23, 3] }, type := 22, pos := "law.go:80", after := #[{ on := 0, ground := Ground.data }, { on := 4, ground := Ground.data }], guard := none }) rfl (fun K hK => ?_) AllReadyH.nil
          go_simp
          refine (join_at w.heap.size w1.heap.size c c _ _ (hS1.out.rows.below (hEnd.trans ((hG2031.1).mono hEnd.size))) (by omega) (hEnd.trans ((hG2031.1).mono hEnd.size)).size (splitRows_big l s c _ (by omega)) M).mono ?_
          rw [hJ2.out]
          rintro e w3 ⟨A3, n3, c3, rfl, hn3, hown3, hb5⟩
          have hk3 := Lib.hid (conv_own c3 hown3)
          clear hn3 hown3
          go_wp2_with fail
          refine hK.out _ _ (⟨(hG2031.1).trans (hb5.mono (hG2031.1).size), (hG2031.2).trans (hb5.mono (hG2031.2).size)⟩) (fun hH2034 => ?_)
          clear hK K
          try simp only [Act.put, List.setIfInBounds_toArray, List.set_cons_zero, List.set_cons_succ]
          have hG2034 : (fun W => Below w2.heap.size w2 W ∧ Below w4.heap.size w4 W ∧ Below w3.heap.size w3 W) w3 := ⟨hH2034.1, hH2034.2, Below.refl _ _⟩
          refine wpAnyH_grow (S' := (fun W => Below w2.heap.size w2 W ∧ Below w4.heap.size w4 W ∧ Below w3.heap.size w3 W)) (fun _ h => ⟨h.1, h.2.1⟩) _ _ _ _ ?_
          refine wpAnyH_take (i := 6) (oi := { dst := some 82, op := Op.convert 22 9 (Operand.tmp 81), type := 9, pos := "law.go:80", after := #[{ on := 5, ground := Ground.data }], guard := none }) (v := ?tkv2035) rfl (by kernel_rfl) (by kernel_rfl) (by kernel_rfl) (fun _ _ _ h => h) (Or.inl ⟨by rfl, ?tky2035⟩) hG2034 ?tkr2035
          case tky2035 => (intro w' hSw; have z0 := hkl2.out _ hSw.1; have z1 := hk4.out _ hSw.2.1; have z2 := hk3.out _ hSw.2.2; clear hSw; go_simp; try with_reducible rfl)
          try simp only [Act.put, List.setIfInBounds_toArray, List.set_cons_zero, List.set_cons_succ]
          refine wpAnyH_take (i := 19) (oi := { dst := some 95, op := Op.binOp BinOp.eql 9 (Operand.tmp 82) (Operand.tmp 94) 9, type := 4, pos := "law.go:80", after := #[{ on := 6, ground := Ground.data }, { on := 18, ground := Ground.data }], guard := none }) (v := ?tkv2036) rfl (by kernel_rfl) (by kernel_rfl) (by kernel_rfl) (fun _ _ _ h => h) (Or.inl ⟨by rfl, ?tky2036⟩) hG2034 ?tkr2036
          case tky2036 => (intro w' hSw; clear hSw; go_simp; try with_reducible rfl)
          try simp only [Act.put, List.setIfInBounds_toArray, List.set_cons_zero, List.set_cons_succ]
          refine wpAnyH_take (i := 25) (oi := { dst := some 101, op := Op.binOp BinOp.eql 4 (Operand.tmp 95) (Operand.tmp 100) 4, type := 4, pos := "law.go:80", after := #[{ on := 19, ground := Ground.data }, { on := 24, ground := Ground.data }], guard := none }) (v := ?tkv2037) rfl (by kernel_rfl) (by kernel_rfl) (by kernel_rfl) (fun _ _ _ h => h) (Or.inl ⟨by rfl, ?tky2037⟩) hG2034 ?tkr2037
          case tky2037 => (intro w' hSw; clear hSw; go_simp; try with_reducible rfl)
          try simp only [Act.put, List.setIfInBounds_toArray, List.set_cons_zero, List.set_cons_succ]
          refine wpAnyH_take (i := 26) (oi := { dst := some 102, op := Op.move (Operand.tmp 101), type := 4, pos := "law.go:80", after := #[{ on := 25, ground := Ground.data }, { on := 5, ground := Ground.chain }], guard := none }) (v := ?tkv2038) rfl (by kernel_rfl) (by kernel_rfl) (by kernel_rfl) (fun _ _ _ h => h) (Or.inl ⟨by rfl, ?tky2038⟩) hG2034 ?tkr2038
          case tky2038 => (intro w' hSw; clear hSw; go_simp; try with_reducible rfl)
          try simp only [Act.put, List.setIfInBounds_toArray, List.set_cons_zero, List.set_cons_succ]
          refine wpAnyH_ready (rs := [27]) (by kernel_rfl) (by simp) ?_
          refine AllReadyH.cons (o := { dst := some 103, op := Op.call { callee := Callee.value (Operand.func 10), args := #[], argTypes := #[] }, type := 4, pos := "law.go:80", after := #[{ on := 26, ground := Ground.chain }, { on := 26, ground := Ground.guard }], guard := some (26, true) }) rfl (fun K hK => ?_) AllReadyH.nil
          go_simp
          refine (awake10_any _).mono ?_
          rintro e w5 ⟨rfl, hb27⟩
          go_wp2_with fail
          refine hK.out _ _ (⟨(hG2034.1).trans (hb27.mono (hG2034.1).size), (hG2034.2.1).trans (hb27.mono (hG2034.2.1).size), (hG2034.2.2).trans (hb27.mono (hG2034.2.2).size)⟩) (fun hH2039 => ?_)
          clear hK K
          try simp only [Act.put, List.setIfInBounds_toArray, List.set_cons_zero, List.set_cons_succ]
          have hG2039 : (fun W => Below w2.heap.size w2 W ∧ Below w4.heap.size w4 W ∧ Below w3.heap.size w3 W ∧ Below w5.heap.size w5 W) w5 := ⟨hH2039.1, hH2039.2.1, hH2039.2.2, Below.refl _ _⟩
          refine wpAnyH_grow (S' := (fun W => Below w2.heap.size w2 W ∧ Below w4.heap.size w4 W ∧ Below w3.heap.size w3 W ∧ Below w5.heap.size w5 W)) (fun _ h => ⟨h.1, h.2.1, h.2.2.1⟩) _ _ _ _ ?_
          refine wpAnyH_take (i := 28) (oi := { dst := some 104, op := Op.pick (Operand.tmp 102) (Operand.tmp 103) (Operand.const (Value.bool false)), type := 4, pos := "law.go:80", after := #[{ on := 26, ground := Ground.data }, { on := 27, ground := Ground.data }], guard := none }) (v := ?tkv2040) rfl (by kernel_rfl) (by kernel_rfl) (by kernel_rfl) (fun _ _ _ h => h) (Or.inl ⟨by rfl, ?tky2040⟩) hG2039 ?tkr2040
          case tky2040 => (intro w' hSw; clear hSw; go_simp; try with_reducible rfl)
          try simp only [Act.put, List.setIfInBounds_toArray, List.set_cons_zero, List.set_cons_succ]
          refine wpAnyH_take (i := 29) (oi := { dst := some 4, op := Op.assign (Operand.tmp 104), type := 4, pos := "law.go:80", after := #[{ on := 28, ground := Ground.data }, { on := 27, ground := Ground.chain }, { on := 0, ground := Ground.phase }, { on := 1, ground := Ground.phase }, { on := 2, ground := Ground.phase }, { on := 3, ground := Ground.phase }, { on := 4, ground := Ground.phase }, { on := 5, ground := Ground.phase }, { on := 6, ground := Ground.phase }, { on := 7, ground := Ground.phase }, { on := 8, ground := Ground.phase }, { on := 9, ground := Ground.phase }, { on := 10, ground := Ground.phase }, { on := 11, ground := Ground.phase }, { on := 12, ground := Ground.phase }, { on := 13, ground := Ground.phase }, { on := 14, ground := Ground.phase }, { on := 15, ground := Ground.phase }, { on := 16, ground := Ground.phase }, { on := 17, ground := Ground.phase }, { on := 18, ground := Ground.phase }, { on := 19, ground := Ground.phase }, { on := 20, ground := Ground.phase }, { on := 21, ground := Ground.phase }, { on := 22, ground := Ground.phase }, { on := 23, ground := Ground.phase }, { on := 24, ground := Ground.phase }, { on := 25, ground := Ground.phase }, { on := 26, ground := Ground.phase }, { on := 27, ground := Ground.phase }, { on := 28, ground := Ground.phase }], guard := none }) (v := ?tkv2041) rfl (by kernel_rfl) (by kernel_rfl) (by kernel_rfl) (fun _ _ _ h => h) (Or.inl ⟨by rfl, ?tky2041⟩) hG2039 ?tkr2041
          case tky2041 => (intro w' hSw; clear hSw; go_simp; try with_reducible rfl)
          try simp only [Act.put, List.setIfInBounds_toArray, List.set_cons_zero, List.set_cons_succ]
          refine wpAnyH_done (by kernel_rfl) ?_ _
          refine NoPanic.normal ?_
          have hEnd0 : Below w2.heap.size w2 _ := hG2039.1
          go_wp2_with fail
          go_ret
          exact ⟨rfl, hB2.trans (hEnd0.mono hB2.size)⟩
set_option maxRecDepth 100000 in
theorem blockBack_lifted (os : Os) (started : os.Started) (H : Type) (enc : TypeId × Value → H) :
    ReturnsInHanded {} Try.checked os 5 .any (Rows.blockBackSpec.pre6 enc Try.prog Try.f5 Rows.blockBackRow.domain false) (Rows.blockBackSpec.post enc Try.prog Try.f5 false true false false) := by
  refine law_lift (C := Try.checked) (tb := 4) Try.own started (by kernel_rfl) Try.func5
    (ChangeSpec.witness6 (enc := enc) (C := Try.checked) false ⟨#[], #[.slice none 0 0, .int .i64 0], []⟩ 8 (by kernel_rfl) (by kernel_rfl) (by kernel_rfl) (by kernel_rfl)) Try.laidOut (by kernel_rfl) rfl rfl Try.underlying4 ?_ ?_
  · intro ds hds
    match ds, hds with
    | [_, _], _ => rfl
  intro W base args ds p hval0 hA0 _ _ hsz0
  have hval : ∀ (j : Nat) t v, Try.f5.params[j]? = some t → args[j]? = some v → Value.okWide Try.prog W .any base t v := hval0
  have hA : DataW.TrodAll enc Try.prog W 0 (fun _ => true) true Try.f5.params.toList args.toList ds p := hA0
  rw [Try.params5] at hA hval
  obtain ⟨v0, v1, d0, d1, p0, p1, rfl, rfl, rfl, h0, h1⟩ := trodAll_two hA
  obtain ⟨A0, n0, cap0, l0, rfl, hrow0, hnc0, hcm0⟩ := open_bytes Try.underlying22 Try.underlying5 Try.cells5 (hval 0 22 v0 rfl rfl) h0
  obtain ⟨x1, rfl, hx1, hy1⟩ := open_i64 Try.underlying3 (hval 1 3 v1 rfl rfl) h1
  exact back_walk A0 n0 cap0 l0 x1 hx1 hy1 W hrow0 hnc0 hcm0

theorem blockBack_holds : Rows.BlockBackSaid :=
  OpenClaim.holds_of_wide 5 Try.f5 rfl rfl rfl rfl rfl rfl rfl ⟨rfl, rfl, rfl, rfl, rfl⟩ rfl rfl rfl rfl rfl (by kernel_rfl) Try.func5 (by kernel_rfl)
    (of_decide_eq_true (by kernel_rfl)) (by unfold Func.isWrapper; rw [if_neg (of_decide_eq_false (by kernel_rfl))]; exact ⟨rfl, rfl⟩)
    (fun os started H enc _ => blockBack_lifted os started H enc)
end Go.Proofs.Ytiogkokcoedonaa
