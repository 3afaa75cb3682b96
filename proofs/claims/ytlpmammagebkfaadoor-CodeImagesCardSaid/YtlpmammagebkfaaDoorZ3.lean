/- Contracts of the functions that the law calls, part 3. -/
import Derived.Laws.CopyOwn
import Derived.Deep.RegionLaw
import Derived.Laws.NewBlocks
import Derived.BigQuiet
import Derived.Deep.QuietTactic
import Derived.Deep.RegionHeld3
import Derived.Lib.Hide
import Derived.Deep.LoopGhost
import Derived.Test.YtlpmammagebkfaaDoorRows
import Derived.Test.YtlpmammagebkfaaDoorZ2
namespace Go.Proofs.YtlpmammagebkfaaDoor
open Go.RowKit
theorem Tryd.info25 : (Tryd.prog.info? 25).map (fun i => (i.zero, i.size, i.bytes)) = some (some (.slice none 0 0), 1, 24) := by kernel_rfl
theorem count_no (a b : Int) (h : a < 1 ∨ 512 < a ∨ b < 1 ∨ 16 < b) (w : World) : Calls Tryd.prog 17 #[.int .i64 a, .int .i64 b] w fun e w' => e = .returned (.int .i64 0) ∧ w = w' := by
  by_cases h1 : a < 1
  · go_enter Tryd.func17, Tryd.ntmps17
    go_wp2
    go_ret
    exact ⟨rfl, rfl⟩
  by_cases h2 : 512 < a
  · go_enter Tryd.func17, Tryd.ntmps17
    go_wp2
    go_ret
    exact ⟨rfl, rfl⟩
  by_cases h3 : b < 1
  · go_enter Tryd.func17, Tryd.ntmps17
    go_wp2
    go_ret
    exact ⟨rfl, rfl⟩
  have h4 : 16 < b := by omega
  go_enter Tryd.func17, Tryd.ntmps17
  go_wp2
  go_ret
  exact ⟨rfl, rfl⟩
theorem quo_bounds (a b : Int) (ha : 1 ≤ a) (ha2 : a ≤ 512) (hb : 1 ≤ b) (hb2 : b ≤ 16) : 1 ≤ (a + b - 1) / b ∧ (a + b - 1) / b ≤ 527 ∧ a ≤ (a + b - 1) / b * b ∧ ((a + b - 1) / b - 1) * b < a := by
  obtain ⟨n, rfl⟩ : ∃ n : Nat, b = n := ⟨b.toNat, by omega⟩
  have : n = 1 ∨ n = 2 ∨ n = 3 ∨ n = 4 ∨ n = 5 ∨ n = 6 ∨ n = 7 ∨ n = 8 ∨ n = 9 ∨ n = 10 ∨ n = 11 ∨ n = 12 ∨ n = 13 ∨ n = 14 ∨ n = 15 ∨ n = 16 := by omega
  rcases this with rfl | rfl | rfl | rfl | rfl | rfl | rfl | rfl | rfl | rfl | rfl | rfl | rfl | rfl | rfl | rfl <;> omega
theorem count_in (a b : Int) (h1 : 1 ≤ a) (h2 : a ≤ 512) (h3 : 1 ≤ b) (h4 : b ≤ 16) (w : World) : Calls Tryd.prog 17 #[.int .i64 a, .int .i64 b] w fun e w' => e = .returned (.int .i64 (if 64 < (a + b - 1) / b then 0 else (a + b - 1) / b)) ∧ w = w' := by
  obtain ⟨q1, q2, _, _⟩ := quo_bounds a b h1 h2 h3 h4
  by_cases hq : 64 < (a + b - 1) / b
  · go_enter Tryd.func17, Tryd.ntmps17
    go_wp2
    go_ret
    exact ⟨by simp , rfl⟩
  · go_enter Tryd.func17, Tryd.ntmps17
    go_wp2
    go_ret
    exact ⟨by simp , rfl⟩
theorem count_any (a b : Int) (w : World) : Calls Tryd.prog 17 #[.int .i64 a, .int .i64 b] w fun e w' => e = .returned (.int .i64 (BlkM.count a b : Nat)) ∧ w = w' := by
  by_cases h : a < 1 ∨ 512 < a ∨ b < 1 ∨ 16 < b
  · refine (count_no a b h w).mono ?_
    rintro e w' ⟨rfl, rfl⟩
    exact ⟨by simp [BlkM.count, h], rfl⟩
  · obtain ⟨q1, q2, _, _⟩ := quo_bounds a b (by omega) (by omega) (by omega) (by omega)
    refine (count_in a b (by omega) (by omega) (by omega) (by omega) w).mono ?_
    rintro e w' ⟨rfl, rfl⟩
    refine ⟨?_, rfl⟩
    unfold BlkM.count
    rw [if_neg h]
    split
    · rfl
    · congr 2; omega
theorem count_facts (a b : Int) (c : Nat) (h : BlkM.count a b = c) (hc : 0 < c) : 1 ≤ a ∧ a ≤ 512 ∧ 1 ≤ b ∧ b ≤ 16 ∧ c ≤ 64 ∧ a ≤ (c : Int) * b ∧ ((c : Int) - 1) * b < a := by
  unfold BlkM.count at h
  split at h
  · omega
  · rename_i h0
    split at h
    · omega
    · obtain ⟨q1, q2, q3, q4⟩ := quo_bounds a b (by omega) (by omega) (by omega) (by omega)
      have e : (c : Int) = (a + b - 1) / b := by omega
      rw [e]
      exact ⟨by omega, by omega, by omega, by omega, by omega, q3, q4⟩
end Go.Proofs.YtlpmammagebkfaaDoor
namespace Go.Proofs.YtlpmammagebkfaaDoor
open Go.RowKit
/-- the cells of a list of c slices of s bytes, the first k made, in blocks behind g -/
def pcs (g s c k : Nat) : List Value := (List.range c).map fun j => if j < k then .slice (some ⟨g + 1 + j, 0, none⟩) s s else .slice none 0 0
theorem pcs_length (g s c k : Nat) : (pcs g s c k).length = c := by simp [pcs]
theorem pcs_zero (g s c : Nat) : List.replicate c (Value.slice none 0 0) = pcs g s c 0 := by
  apply List.ext_getElem <;> simp [pcs]
theorem pcs_get (g s c k j : Nat) (h : j < c) : (pcs g s c k)[j]? = some (if j < k then .slice (some ⟨g + 1 + j, 0, none⟩) s s else .slice none 0 0) := by simp [pcs, h]
theorem pcs_set (g s c k : Nat) (h : k < c) : (pcs g s c k).set k (.slice (some ⟨g + 1 + k, 0, none⟩) s s) = pcs g s c (k + 1) := by
  apply List.ext_getElem?
  intro j
  rw [List.getElem?_set]
  by_cases hj : j < c
  · rw [pcs_get _ _ _ _ _ hj, pcs_get _ _ _ _ _ hj]
    by_cases e : k = j
    · subst e; simp [pcs_length, h]
    · rw [if_neg e]
      by_cases h1 : j < k
      · rw [if_pos h1, if_pos (by omega)]
      · rw [if_neg h1, if_neg (by omega)]
  · have h1 : (pcs g s c k)[j]? = none := List.getElem?_eq_none (by rw [pcs_length]; omega)
    have h2 : (pcs g s c (k + 1))[j]? = none := List.getElem?_eq_none (by rw [pcs_length]; omega)
    rw [h1, h2]
    split
    · split
      · rename_i h3; rw [pcs_length] at h3; omega
      · rfl
    · rfl
def SplitW (l : List UInt8) (s c g k : Nat) (w wr : World) : Prop :=
  wr.heap.size = g + 1 + k ∧ wr.heap[g]? = some (.cells (pcs g s c k).toArray 25 (0, 0)) ∧ (∀ j, j < k → wr.heap[g + 1 + j]? = some (.cells (bv (BlkM.piece l s j)).toArray 5 (0, 0))) ∧ Below g w wr
def SplitOk (l : List UInt8) (s c : Nat) (w : World) (e : Ending) (w' : World) : Prop :=
  e = .returned (.slice (some ⟨w.heap.size, 0, none⟩) c c) ∧ SplitW l s c w.heap.size c w w'
theorem made_list (v : Value) (n : Nat) : madeCells #[v] n = Array.replicate n v := by
  apply Array.toList_inj.1
  rw [toList_madeCells_one]; simp
theorem mk_rows (c : Nat) (hc : c ≤ 1000) (w : World) : (Instr.makeSlice 31 (.int .i64 (c : Int)) (.int .i64 (c : Int))).run Tryd.prog w = .ok (.slice (some ⟨w.heap.size, 0, none⟩) c c) (w.alloc (.cells (Array.replicate c (.slice none 0 0)) 25)) := by
  obtain ⟨i0, hi, hz0, hz1, hz2⟩ := info_parts Tryd.info25
  have := run_make (P := Tryd.prog) w 31 25 i0 (.slice none 0 0) Tryd.underlying31 hi hz0 .i64 .i64 c c (by omega) (Int.le_refl _) (by rw [hz2]; omega) (by omega)
  simpa [hz1, Value.cells, made_list] using this
theorem mk_bytes (c : Nat) (hc : c ≤ 1000000000) (w : World) : (Instr.makeSlice 25 (.int .i64 (c : Int)) (.int .i64 (c : Int))).run Tryd.prog w = .ok (.slice (some ⟨w.heap.size, 0, none⟩) c c) (w.alloc (.cells (Array.replicate c (.int .u8 0)) 5)) := by
  obtain ⟨i0, hi, hz0, hz1, hz2⟩ := info_parts Tryd.info5
  have := run_make (P := Tryd.prog) w 25 5 i0 (.int .u8 0) Tryd.underlying25 hi hz0 .i64 .i64 c c (by omega) (Int.le_refl _) (by rw [hz2]; omega) (by omega)
  simpa [hz1, Value.cells, made_list] using this
theorem step_copy_row {P : Program} {ops : Array Oper} {o : Oper} {a : Act} {w : World} {K : Act → World → Prop} {Q : Exit → Act → World → Prop} {E : Prop} (hgd : o.guard = none) (d s : Operand) (dT sT : TypeId)
    (ho : o.op = .call { callee := .builtin .copy, args := #[d, s], argTypes := #[dT, sT] }) (elem : TypeId) (hu : P.underlying dT = some (.slice elem)) (hsz : (P.info? elem).map (·.size) = some 1)
    (g off : Nat) (ad : Addr) (dLen dCap sLen sCap : Nat) (hd : a.eval d = .slice (some ⟨g, off, none⟩) dLen dCap) (hs : a.eval s = .slice (some ad) sLen sCap)
    (cur : List Value) (t : TypeId) (hg : w.heap[g]? = some (.cells cur.toArray t (0, 0))) (cs : List Value) (hn : cs.length = Nat.min sLen dLen)
    (hsrc : ∀ j v, cs[j]? = some v → w.cell? (ad.add j) = some v)
    (hfit : off + cs.length ≤ cur.length) (h1 : ∀ v ∈ cs, v.oneCell' = true)
    (h : K (a.put o.dst (goInt cs.length)) (w.setRow g (splice cur off cs).toArray)) :
    if Region.wanted o (yielded ops a.tmps) = true then Oper.wp P o a w K Q else E := by
  have hw : Region.wanted o (yielded ops a.tmps) = true := by simp [Region.wanted, hgd]
  rw [if_pos hw]
  have hrun := run_copy_row (P := P) w dT sT o.type elem g off dLen dCap ad sLen sCap cur.toArray t cs hu hsz hg hn hsrc (by simpa using hfit) h1
  unfold Oper.wp
  simp [execOp, ho, resolve, invoke, builtin, hd, hs, hrun, Result.andThen]
  have h' : K (a.put o.dst (goInt cs.length)) (w.setRow g (cur.take off ++ (cs ++ cur.drop (off + cs.length))).toArray) := h
  exact h'
/-- what round k does to memory ahead of its copy -/
theorem split_step {l : List UInt8} {s c g k : Nat} {w wr : World} (h : SplitW l s c g k w wr) (hk : k < c) (u : Obj) :
    (wr.alloc u).cell? ⟨g, k, none⟩ = some (.slice none 0 0) ∧ (wr.alloc u).frozen? ⟨g, k, none⟩ = false ∧
    ((wr.alloc u).setCell ⟨g, k, none⟩ (.slice (some ⟨g + 1 + k, 0, none⟩) s s)).heap[g]? = some (.cells (pcs g s c (k + 1)).toArray 25 (0, 0)) ∧
    ((wr.alloc u).setCell ⟨g, k, none⟩ (.slice (some ⟨g + 1 + k, 0, none⟩) s s)).heap[g + 1 + k]? = some u ∧
    (∀ j, j < k → ((wr.alloc u).setCell ⟨g, k, none⟩ (.slice (some ⟨g + 1 + k, 0, none⟩) s s)).heap[g + 1 + j]? = some (.cells (bv (BlkM.piece l s j)).toArray 5 (0, 0))) ∧
    ((wr.alloc u).setCell ⟨g, k, none⟩ (.slice (some ⟨g + 1 + k, 0, none⟩) s s)).heap.size = g + 1 + (k + 1) ∧
    Below g w ((wr.alloc u).setCell ⟨g, k, none⟩ (.slice (some ⟨g + 1 + k, 0, none⟩) s s)) := by
  obtain ⟨h1, h2, h3, h4⟩ := h
  have hold : ∀ b, b < g + 1 + k → (wr.alloc u).heap[b]? = wr.heap[b]? := fun b hb => ((Below.refl wr.heap.size wr).alloc (Nat.le_refl _) u).block b (by omega)
  have ha : (wr.alloc u).heap[g]? = some (.cells (pcs g s c k).toArray 25 (0, 0)) := (hold g (by omega)).trans h2
  have hset := heap_setCell_same (wr.alloc u) g k (pcs g s c k).toArray 25 (.slice (some ⟨g + 1 + k, 0, none⟩) s s) ha
  refine ⟨?_, ?_, ?_, ?_, ?_, ?_, ?_⟩
  · rw [cell_of_row _ g k _ _ _ ha]; simp [pcs_get _ _ _ _ _ hk]
  · exact frozen_of_row _ g k _ _ ha
  · rw [hset]; simp [pcs_set _ _ _ _ hk]
  · rw [heap_setCell_other _ _ _ _ (by show g + 1 + k ≠ g; omega), ← h1]; exact heap_alloc_new wr u
  · intro j hj
    rw [heap_setCell_other _ _ _ _ (by show g + 1 + j ≠ g; omega), hold _ (by omega)]
    exact h3 j hj
  · simp [h1]; omega
  · exact (h4.alloc (by omega) u).setCell (Nat.le_refl _) _
/-- the bytes that round k copies -/
def part (l : List UInt8) (s k : Nat) : List UInt8 := (l.drop (k * s)).take s
theorem piece_splice (l : List UInt8) (s k : Nat) : splice (List.replicate s (Value.int .u8 0)) 0 (bv (part l s k)) = bv (BlkM.piece l s k) := by
  simp [splice, BlkM.piece, part, bv]
set_option maxRecDepth 100000 in
set_option maxHeartbeats 1600000 in
theorem split_ok (B n cap s c : Nat) (A : Option Addr) (l : List UInt8) (w : World) (hl : Row w B A n (bv l)) (hnc : n ≤ cap) (hcap : cap ≤ 9223372036854775807) (hcN : BlkM.count n s = c) (hc0 : 0 < c) (hB : B ≤ w.heap.size) :
    Calls Tryd.prog 33 #[.slice A n cap, .int .i64 (s : Int)] w (SplitOk l s c w) := by
  obtain ⟨q1, q2, q3, q4, q5, q6, q7⟩ := count_facts n s c hcN hc0
  have HN := Lib.hid hcN
  have HB := Lib.hid hl.blen
  have hs0 : 0 < s := by omega
  have hs16 : s ≤ 16 := by omega
  have hn512 : n ≤ 512 := by omega
  have HQ7 := Lib.hid q7
  have hm1 := Lib.hid (mk_rows c (by omega))
  have hm2 := Lib.hid (mk_bytes s (by omega))
  clear hcN q1 q2 q3 q4 q6 q7
  have hm1' := hm1.out w
  go_enter Tryd.func33, Tryd.ntmps33
  go_wp2_with (go_at_call 17; refine (count_any _ _ _).mono ?_; rintro e w' ⟨rfl, rfl⟩; rw [HN.out])
  clear hm1'
  go_loopw [14] (fun i wr => ∃ k : Nat, k ≤ c ∧ i = .int .i64 k ∧ SplitW l s c w.heap.size k w wr) (fun i _ => c - (intOf i).toNat)
  case atStart =>
    refine ⟨0, by omega, rfl, by simp, ?_, fun j hj => by omega, (Below.refl _ _).alloc (Nat.le_refl _) _⟩
    rw [← pcs_zero]
    simpa using heap_alloc_new w (.cells (Array.replicate c (.slice none 0 0)) 25)
  case round =>
    obtain ⟨k, hk, rfl, hS⟩ := hrel
    generalize hg : w.heap.size = g at *
    have HG := Lib.hid hg
    clear hg
    by_cases hlt : k < c
    · obtain ⟨f1, f2, f3, f4, f5, f6, f7⟩ := split_step hS hlt (.cells (Array.replicate s (.int .u8 0)) 5)
      have hz : wr.heap.size = g + 1 + k := hS.1
      have hm2' := hm2.out wr
      rw [hz] at hm2'
      clear hz
      have F3 := Lib.hid f3
      have F4 := Lib.hid f4
      have F5 := Lib.hid f5
      have F6 := Lib.hid f6
      clear f3 f4 f5 f6
      obtain ⟨m, hm⟩ : ∃ m : Nat, m = k * s := ⟨_, rfl⟩
      have hmn : m < n := by
        have h1 : (k : Int) * (s : Int) ≤ ((c : Int) - 1) * (s : Int) := Int.mul_le_mul_of_nonneg_right (by omega) (by omega)
        have h2 := HQ7.out
        rw [hm]
        have : ((k * s : Nat) : Int) < n := by push_cast; omega
        omega
      have hw : IntKind.i64.wrap ((k : Int) * (s : Int)) = (m : Int) := by
        rw [← Int.natCast_mul, ← hm]
        exact IntWalk.i64_in _ (by omega)
      have HM := Lib.hid hm
      clear hm
      obtain ⟨b, o, rfl, hbB, _⟩ := hl.byteAt (k := m) hmn
      have hcm : ¬ cap = m := by omega
      have hmc : (m : Int) ≤ cap := by omega
      have hmn' : (m : Int) ≤ n := by omega
      have hp : (part l s k).length = Nat.min (n - m) s := by
        simp only [part, List.length_take, List.length_drop, HB.out, ← HM.out]
        show min s (n - m) = min (n - m) s
        omega
      have HP : Hid ((bv (part l s k)).length = Nat.min (n - m) s) := by rw [bv_length]; exact hp
      have hps : (part l s k).length ≤ s := by rw [hp]; exact Nat.min_le_right _ _
      have hpn : (part l s k).length ≤ n - m := by rw [hp]; exact Nat.min_le_left _ _
      have hpn2 : (part l s k).length ≤ s := hps
      go_wp2_with fail
      generalize hW1 : (wr.alloc (Obj.cells (Array.replicate s (Value.int IntKind.u8 0)) 5)).setCell { block := g, off := k } (Value.slice (some { block := g + 1 + k, off := 0 }) s s) = W1 at *
      have hcell : W1.cell? ⟨g, k, none⟩ = some (Value.slice (some { block := g + 1 + k, off := 0 }) s s) := by
        rw [cell_of_row _ g k _ _ _ F3.out]; simp [pcs_get _ _ _ _ _ hlt]
      have hsrc : Hid (∀ j v, (bv (part l s k))[j]? = some v → W1.drew.cell? ((⟨b, o + m, none⟩ : Addr).add j) = some v) := by
        have h1 := ((hl.below (f7.mono hB)).sub (k := m) (m := n - m) (A' := some ⟨b, o + m, none⟩) (by omega) (fun b' o' e _ => by injection e with e; injection e with e1 e2; subst e1 e2; rfl))
        intro j v hv
        obtain ⟨b', o', e, _, hc⟩ := h1.2 (by omega)
        injection e with e
        injection e with e1 e2
        subst e1 e2
        rw [plain_add]
        refine hc j v ?_
        have hj := (List.getElem?_eq_some_iff.1 hv).1
        rw [bv_length] at hj
        rw [← hv, part, ← HM.out, ← bv_take, ← bv_drop, List.getElem?_take_of_lt (by omega), List.getElem?_take_of_lt (by omega)]
      have HW1 := Lib.hid hW1
      clear hW1 hm2'
      go_region_law (refine step_copy_row rfl (.tmp 25) (.tmp 30) 25 25 rfl 5 Tryd.underlying25 (by kernel_rfl) (g + 1 + k) 0 ⟨b, o + m, none⟩ s s (n - m) (cap - m) (by simp [Act.eval, Act.put]) (by simp [Act.eval, Act.put, hcm]) (List.replicate s (.int .u8 0)) 5 (by show W1.heap[_]? = _; simpa using F4.out) (bv (part l s k)) HP.out hsrc.out (by rw [bv_length]; simpa using hps) (bv_one _) ?_)
      go_wp2_with fail
      go_roundw
      case rel =>
        refine ⟨k + 1, by omega, by go_num, ?_, ?_, ?_, ?_⟩
        · simpa using F6.out
        · rw [setRow_other _ _ _ _ (by omega)]; exact F3.out
        · intro j hj
          by_cases e : j = k
          · subst e
            rw [setRow_heap _ _ _ _ _ _ (show W1.drew.heap[g + 1 + j]? = _ from F4.out), piece_splice]
          · rw [setRow_other _ _ _ _ (by omega)]; exact F5.out j (by omega)
        · exact below_setRow f7.drew (by omega) _
      case measure => simp [intOf]; omega
    · have : k = c := by omega
      subst this
      have e := HG.out
      subst e
      go_wp2
      go_ret
      exact ⟨rfl, hS⟩
set_option maxRecDepth 100000 in
set_option maxHeartbeats 800000 in
theorem split_no (n cap : Nat) (A : Option Addr) (s : Int) (w : World) (hcN : BlkM.count n s = 0) :
    Calls Tryd.prog 33 #[.slice A n cap, .int .i64 s] w (fun e w' => e = .returned (.slice (some ⟨w.heap.size, 0, none⟩) 0 0) ∧ Below w.heap.size w w') := by
  have HN := Lib.hid hcN
  have hm1 : (Instr.makeSlice 31 (.int .i64 0) (.int .i64 0)).run Tryd.prog w = .ok (.slice (some ⟨w.heap.size, 0, none⟩) 0 0) (w.alloc (.cells (Array.replicate 0 (.slice none 0 0)) 25)) := mk_rows 0 (by omega) w
  clear hcN
  go_enter Tryd.func33, Tryd.ntmps33
  go_wp2_with (go_at_call 17; refine (count_any _ _ _).mono ?_; rintro e w' ⟨rfl, rfl⟩; rw [HN.out])
  clear hm1
  go_loopw [14] (fun i wr => i = .int .i64 0 ∧ Below w.heap.size w wr) (fun i _ => 0)
  case atStart => exact ⟨rfl, (Below.refl _ _).alloc (Nat.le_refl _) _⟩
  case round =>
    obtain ⟨rfl, hS⟩ := hrel
    go_wp2
    go_ret
    exact ⟨rfl, hS⟩
def splitRows (l : List UInt8) (s c g : Nat) : List BRow := (List.range c).map fun j => ⟨some ⟨g + 1 + j, 0, none⟩, s, s, BlkM.piece l s j⟩
theorem splitRows_flat (l : List UInt8) (s c g : Nat) (h : l.length ≤ c * s) : flat (splitRows l s c g) = BlkM.pad l (c * s) := by
  rw [← BlkM.pieces_flat l s c h]
  simp [flat, splitRows, List.flatMap_map, List.flatMap_def]
  rfl
theorem SplitW.rows {l : List UInt8} {s c g : Nat} {w w' : World} (h : SplitW l s c g c w w') : Rows2 w' w'.heap.size (some ⟨g, 0, none⟩) c (splitRows l s c g) := by
  obtain ⟨h1, h2, h3, h4⟩ := h
  refine ⟨⟨by simp [splitRows], fun _ => ⟨g, 0, rfl, by omega, fun j u hu => ?_⟩⟩, ?_⟩
  · rw [Nat.zero_add, cell_of_row _ g j _ _ _ h2]
    have hj : j < c := by have := (List.getElem?_eq_some_iff.1 hu).1; simpa [splitRows] using this
    rw [← hu]
    simp [pcs, splitRows, hj, BRow.val]
  · intro r hr
    simp only [splitRows, List.mem_map, List.mem_range] at hr
    obtain ⟨j, hj, rfl⟩ := hr
    refine ⟨by rw [bv_length, BlkM.piece_length], fun _ => ⟨g + 1 + j, 0, rfl, by omega, fun i u hu => ?_⟩⟩
    rw [Nat.zero_add, cell_of_row _ _ i _ _ _ (h3 j hj)]
    simpa using hu
end Go.Proofs.YtlpmammagebkfaaDoor
namespace Go.Proofs.YtlpmammagebkfaaDoor
open Go.RowKit
def joinF (es : List BRow) (len : Int) : List UInt8 := if len < 1 ∨ 512 < len then [] else if ((flat es).length : Int) < len then [] else (flat es).take len.toNat
def so (es : List BRow) (L k : Nat) : List UInt8 := (flat (es.take k)).take L
theorem so_le (es : List BRow) (L k : Nat) : (so es L k).length ≤ L := by simp [so]; omega
theorem so_next (es : List BRow) (L k : Nat) (r : BRow) (h : es[k]? = some r) (p : Nat) (hp : p = min r.l.length (L - (so es L k).length)) : so es L (k + 1) = so es L k ++ r.l.take p := by
  have hlk := (List.getElem?_eq_some_iff.1 h).1
  rw [List.getElem?_eq_getElem hlk] at h
  injection h with h
  have e1 : so es L (k + 1) = (flat (es.take k) ++ r.l).take L := by
    unfold so
    rw [List.take_succ_eq_append_getElem hlk, h, flat_snoc]
  have e2 : (so es L k).length = min L (flat (es.take k)).length := by unfold so; rw [List.length_take]
  rw [e1, List.take_append]
  show _ = (flat (es.take k)).take L ++ _
  congr 1
  rw [hp, e2]
  by_cases hy : r.l.length ≤ L - (flat (es.take k)).length
  · rw [show min r.l.length (L - min L (flat (es.take k)).length) = r.l.length by omega, List.take_length, List.take_of_length_le hy]
  · rw [show min r.l.length (L - min L (flat (es.take k)).length) = L - (flat (es.take k)).length by omega]
set_option maxRecDepth 100000 in
set_option maxHeartbeats 400000 in
theorem join_out (n cap : Nat) (A : Option Addr) (len : Int) (w : World) (h : len < 1 ∨ 512 < len) :
    Calls Tryd.prog 14 #[.slice A n cap, .int .i64 len] w (FreshBytes w.heap.size [] w) := by
  by_cases h1 : len < 1
  · go_enter Tryd.func14, Tryd.ntmps14
    go_wp2
    go_ret
    exact ⟨none, 0, 0, rfl, rfl, World.ownsRow_nil _ _ _ _, Below.refl _ _⟩
  · have h2 : 512 < len := by omega
    go_enter Tryd.func14, Tryd.ntmps14
    go_wp2
    go_ret
    exact ⟨none, 0, 0, rfl, rfl, World.ownsRow_nil _ _ _ _, Below.refl _ _⟩
set_option maxRecDepth 100000 in
set_option maxHeartbeats 800000 in
theorem join_in (B n cap : Nat) (A : Option Addr) (es : List BRow) (L : Nat) (w : World) (hl : Rows2 w B A n es) (h1 : 1 ≤ L) (h2 : L ≤ 512) (hn : n ≤ 1000000000000000000) (hB : B ≤ w.heap.size) (hbig : ∀ r ∈ es, r.n ≤ r.c ∧ r.c ≤ 9223372036854775807) :
    Calls Tryd.prog 14 #[.slice A n cap, .int .i64 (L : Int)] w (FreshBytes w.heap.size (joinF es L) w) := by
  obtain ⟨i0, hi, hz0, hz1, hz2⟩ := info_parts Tryd.info5
  have hN : es.length = n := by have := hl.1.1; simpa using this
  have HN := Lib.hid hN
  have HBIG := Lib.hid hbig
  clear hN hbig
  go_enter Tryd.func14, Tryd.ntmps14
  go_wp2_with (at_make; refine wpList_make_own _ rfl _ _ 25 rfl w.heap.size 5 i0 (.int .u8 0) 1 Tryd.underlying25 hi hz0 hz1 .i64 .i64 _ L rfl rfl (by omega) (by rw [hz2]; omega) (by unfold maxLen; omega) (by simp) ?_; intro w1 hown1 hg1)
  go_loopw [5, 18] (fun v i wr => ∃ k : Nat, k ≤ n ∧ i = .int .i64 k ∧ wr.ownsRow w.heap.size 5 1 v (so es L k).length (bv (so es L k)) ∧ Below w.heap.size w wr) (fun _ i _ => n - (intOf i).toNat)
  case atStart => exact ⟨0, by omega, rfl, by simpa [so, flat, bv] using hown1, (Below.refl _ _).grown hg1 (Nat.le_refl _) (by intro g h; nomatch h)⟩
  case round =>
    obtain ⟨k, hk, rfl, hown, hbk⟩ := hrel
    clear hown1 hg1
    have hsl := so_le es L k
    by_cases hlt : k < n
    · obtain ⟨b, o, rfl, r, hr, hcell, hrow⟩ := (hl.below (hbk.mono hB)).at_ hlt
      obtain ⟨hrn, hrc⟩ := HBIG.out r (List.mem_of_getElem? hr)
      obtain ⟨p, hp⟩ : ∃ p, p = min r.n (L - (so es L k).length) := ⟨_, rfl⟩
      have hnx := Lib.hid (so_next es L k r hr p (by rw [hrow.blen]; exact hp))
      have hlk := (List.getElem?_eq_some_iff.1 hr).1
      generalize hQ : so es L k = Q at *
      have HQ := Lib.hid hQ
      clear hQ hr
      generalize hq : Q.length = q at *
      have HQL := Lib.hid hq
      clear hq
      obtain ⟨Aq, cq, rfl, _⟩ := own_slice hown
      have hpn : p ≤ r.n := by omega
      have hpl : p ≤ L - q := by omega
      have hmin : (if (L : Int) - (q : Int) < (r.n : Int) then (L : Int) - (q : Int) else (r.n : Int)) = (p : Int) := by split <;> omega
      clear hp
      have hpc : (p : Int) ≤ (r.c : Int) := by omega
      have hhead : Row wr B r.A p (bv (r.l.take p)) := by rw [← bv_take]; exact hrow.head hpn
      go_wp2_with (at_builtin; refine wpList_app rfl (.tmp 22) (.tmp 31) 25 rfl w.heap.size 5 i0 (.int .u8 0) 1 Tryd.underlying25 hi hz0 hz1 hz2 rfl _ _ _ rfl hown B r.A p r.c (bv (r.l.take p)) rfl hhead (bv_one _) (by unfold maxLen; omega) (by omega) hbk.size ?_; intro v2 w2 hown2 hg2 hat2)
      have hb2 := below_app hbk hbk.size hown (Nat.le_refl _) hg2
      have hown3 : w2.ownsRow w.heap.size 5 1 v2 (so es L (k + 1)).length (bv (so es L (k + 1))) := by
        rw [hnx.out, bv_append, List.length_append, HQL.out, List.length_take, hrow.blen, Nat.min_eq_left hpn]
        exact hown2
      clear hown hown2 hg2 hat2
      go_roundw
      case rel => exact ⟨k + 1, by omega, by go_num, hown3, hb2⟩
      case measure => simp [intOf]; omega
    · have : k = n := by omega
      subst this
      have hall : so es L k = (flat es).take L := by unfold so; rw [show es.take k = es from List.take_of_length_le (by rw [HN.out]; omega)]
      rw [hall] at hown hsl
      have HJ : Hid (joinF es L = if (flat es).length < L then [] else (flat es).take L) := by
        show _ = _
        unfold joinF
        rw [if_neg (by omega)]
        by_cases hx : (flat es).length < L
        · rw [if_pos hx, if_pos (by omega)]
        · rw [if_neg hx, if_neg (by omega)]; rfl
      clear hall
      by_cases hx : (flat es).length < L
      · have hq : ((flat es).take L).length < L := by rw [List.length_take]; omega
        obtain ⟨A4, c4, rfl, _⟩ := own_slice hown
        generalize hql : ((flat es).take L).length = q at *
        clear hql
        go_wp2
        go_ret
        refine ⟨none, 0, 0, rfl, ?_, ?_, hbk⟩
        · rw [HJ.out, if_pos hx]; rfl
        · rw [HJ.out, if_pos hx]; exact World.ownsRow_nil _ _ _ _
      · have hq : ((flat es).take L).length = L := by rw [List.length_take]; omega
        rw [hq] at hown
        have HQ := Lib.hid hq
        clear hq hsl
        obtain ⟨A4, c4, rfl, _⟩ := own_slice hown
        go_wp2
        go_ret
        refine ⟨A4, L, c4, rfl, ?_, ?_, hbk⟩
        · rw [HJ.out, if_neg hx]; exact HQ.out.symm
        · rw [HJ.out, if_neg hx]; exact hown
end Go.Proofs.YtlpmammagebkfaaDoor
namespace Go.Proofs.YtlpmammagebkfaaDoor
open Go.RowKit
theorem join_at (g : Nat) (B n cap : Nat) (es : List BRow) (w : World) (hl : Rows2 w B (some ⟨g, 0, none⟩) n es) (hn : n ≤ 1000000000000000000) (hB : B ≤ w.heap.size) (hbig : ∀ r ∈ es, r.n ≤ r.c ∧ r.c ≤ 9223372036854775807) (L : Int) :
    Calls Tryd.prog 14 #[.slice (some ⟨g, 0, none⟩) n cap, .int .i64 L] w (FreshBytes w.heap.size (joinF es L) w) := by
  by_cases h : L < 1 ∨ 512 < L
  · rw [show joinF es L = [] by unfold joinF; rw [if_pos h]]
    exact join_out n cap _ L w h
  · obtain ⟨k, rfl⟩ : ∃ k : Nat, L = k := ⟨L.toNat, by omega⟩
    exact join_in B n cap _ es k w hl (by omega) (by omega) hn hB hbig
theorem splitRows_big (l : List UInt8) (s c g : Nat) (hs : s ≤ 1000) : ∀ r ∈ splitRows l s c g, r.n ≤ r.c ∧ r.c ≤ 9223372036854775807 := by
  intro r hr
  simp only [splitRows, List.mem_map, List.mem_range] at hr
  obtain ⟨j, hj, rfl⟩ := hr
  exact ⟨Nat.le_refl _, by show s ≤ _; omega⟩
theorem split_join {l : List UInt8} {s c g : Nat} {w w' : World} (h : SplitW l s c g c w w') (hs : s ≤ 1000) (hc : c ≤ 1000000000) (L : Int) :
    Calls Tryd.prog 14 #[.slice (some ⟨g, 0, none⟩) c c, .int .i64 L] w' (FreshBytes w'.heap.size (joinF (splitRows l s c g) L) w') :=
  join_at g _ c c _ w' h.rows (by omega) (Nat.le_refl _) (splitRows_big l s c g hs) L
theorem split_at (g B n cap s c : Nat) (A : Option Addr) (l : List UInt8) (w : World) (hg : w.heap.size = g) (hl : Row w B A n (bv l)) (hnc : n ≤ cap) (hcap : cap ≤ 9223372036854775807) (hcN : BlkM.count n s = c) (hc0 : 0 < c) (hB : B ≤ w.heap.size) :
    Calls Tryd.prog 33 #[.slice A n cap, .int .i64 (s : Int)] w (fun e w' => e = .returned (.slice (some ⟨g, 0, none⟩) c c) ∧ SplitW l s c g c w w') := by
  subst hg
  exact split_ok B n cap s c A l w hl hnc hcap hcN hc0 hB
theorem awake10_l1 : BlkM.piece [1, 2, 3] 2 1 = [3, 0] := by decide +kernel
theorem awake10_j (g : Nat) : joinF (splitRows [1, 2, 3] 2 2 g) 3 = [1, 2, 3] := by
  unfold joinF
  rw [splitRows_flat _ _ _ _ (by simp)]
  decide
end Go.Proofs.YtlpmammagebkfaaDoor
namespace Go.Proofs.YtlpmammagebkfaaDoor
/-- a's bytes, the first i of them changed by b's -/
def xl (a b : List UInt8) (i : Nat) : List UInt8 := (List.range a.length).map fun j => if j < i then a.getD j 0 ^^^ b.getD j 0 else a.getD j 0
theorem xl_length (a b : List UInt8) (i : Nat) : (xl a b i).length = a.length := by simp [xl]
theorem xl_get (a b : List UInt8) (i j : Nat) (h : j < a.length) : (xl a b i)[j]? = some (if j < i then a.getD j 0 ^^^ b.getD j 0 else a.getD j 0) := by simp [xl, h]
theorem xl_getD (a b : List UInt8) (i j : Nat) (h : j < a.length) : (xl a b i).getD j 0 = if j < i then a.getD j 0 ^^^ b.getD j 0 else a.getD j 0 := by
  rw [List.getD_eq_getElem?_getD, xl_get a b i j h]; rfl
theorem xl_zero (a b : List UInt8) : xl a b 0 = a := by
  apply List.ext_getElem?
  intro j
  by_cases h : j < a.length
  · rw [xl_get a b 0 j h, List.getElem?_eq_getElem h]; simp [List.getD, h]
  · rw [List.getElem?_eq_none (by rw [xl_length]; omega), List.getElem?_eq_none (by omega)]
theorem xl_set (a b : List UInt8) (i : Nat) (h : i < a.length) : (xl a b i).set i (a.getD i 0 ^^^ b.getD i 0) = xl a b (i + 1) := by
  apply List.ext_getElem?
  intro j
  rw [List.getElem?_set]
  by_cases hj : j < a.length
  · rw [xl_get a b (i + 1) j hj]
    by_cases e : i = j
    · subst e; simp [xl_length, h]
    · rw [if_neg e, xl_get a b i j hj]
      by_cases h1 : j < i
      · rw [if_pos h1, if_pos (by omega)]
      · rw [if_neg h1, if_neg (by omega)]
  · rw [List.getElem?_eq_none (by rw [xl_length]; omega)]
    rw [List.getElem?_eq_none (by rw [xl_length]; omega)]
    split
    · split
      · rename_i h3; rw [xl_length] at h3; omega
      · rfl
    · rfl
def xorL (a b : List UInt8) : List UInt8 := xl a b a.length
theorem xorL_length (a b : List UInt8) : (xorL a b).length = a.length := xl_length a b _
end Go.Proofs.YtlpmammagebkfaaDoor
namespace Go.Proofs.YtlpmammagebkfaaDoor
open Go.RowKit
def sumTo (h : List UInt8) (t : List (List UInt8)) : List UInt8 := t.foldl xorL h
theorem sumTo_length (h : List UInt8) (t : List (List UInt8)) : (sumTo h t).length = h.length := by
  induction t generalizing h with
  | nil => rfl
  | cons x t ih => show (sumTo (xorL h x) t).length = _; rw [ih, xorL_length]
theorem sumTo_snoc (h : List UInt8) (t : List (List UInt8)) (x : List UInt8) : sumTo h (t ++ [x]) = xorL (sumTo h t) x := by simp [sumTo]
/-- the sum of all rows; nothing, where their lengths part -/
def sumF : List (List UInt8) → List UInt8
  | [] => []
  | h :: t => if ∀ x ∈ t, x.length = h.length then sumTo h t else []
theorem xor_int (a b : UInt8) : bits .xor .u8 (a.toNat : Int) (b.toNat : Int) = ((a ^^^ b).toNat : Int) := by
  rw [u8_xor_nat _ _ (CrcM.b_lt _) (CrcM.b_lt _), ← UInt8.toNat_xor]
theorem Rows2.tail {w : World} {B n cap b o : Nat} {es : List BRow} (h : Rows2 w B (some ⟨b, o, none⟩) (n + 1) es) (hc : n + 1 ≤ cap) : Rows2 w B (if cap = 1 then some ⟨b, o, none⟩ else some ⟨b, o + 1, none⟩) n (es.drop 1) := by
  refine ⟨?_, fun r hr => h.2 r (List.mem_of_mem_drop hr)⟩
  have := h.1.tail (k := 1) (cap := cap) (by omega) hc
  rw [List.map_drop]
  simpa [plain_add] using this
theorem Rows2.len {w : World} {B n : Nat} {A : Option Addr} {es : List BRow} (h : Rows2 w B A n es) : es.length = n := by have := h.1.1; simpa using this
set_option maxHeartbeats 400000 in
theorem sum_none (cap : Nat) (A : Option Addr) (w : World) :
    Calls Tryd.prog 13 #[.slice A 0 cap] w (FreshBytes w.heap.size [] w) := by
  go_enter Tryd.func13, Tryd.ntmps13
  go_wp2
  go_ret
  exact ⟨none, 0, 0, rfl, rfl, World.ownsRow_nil _ _ _ _, Below.refl _ _⟩
set_option maxHeartbeats 1600000 in
theorem sum_some (B n cap : Nat) (A : Option Addr) (r0 : BRow) (es : List BRow) (w : World) (hl : Rows2 w B A (n + 1) (r0 :: es)) (hc : n + 1 ≤ cap) (hcap : cap ≤ 9223372036854775807) (hB : B ≤ w.heap.size) (hm : r0.n ≤ 1000000000) :
    Calls Tryd.prog 13 #[.slice A (n + 1) cap] w (FreshBytes w.heap.size (sumF ((r0 :: es).map (·.l))) w) := by
  obtain ⟨b, o, rfl, r, hr, hcell, hrow⟩ := hl.at_ (k := 0) (by omega)
  simp at hr
  subst hr
  rw [Nat.add_zero] at hcell
  have htl := hl.tail hc
  have hlen := htl.len
  simp at hlen
  obtain ⟨A', hA'⟩ : ∃ A', (if cap = 1 then some (⟨b, o, none⟩ : Addr) else some ⟨b, o + 1, none⟩) = A' := ⟨_, rfl⟩
  rw [hA'] at htl
  have htl' : Rows2 w B A' n es := by simpa using htl
  have HLEN := Lib.hid hlen
  have h1c : (1 : Int) ≤ cap := by omega
  have hn1 : (1 : Int) ≤ (n : Int) + 1 := by omega
  have hne : ((n : Int) + 1 == 0) = false := by simp; omega
  have hRL := Lib.hid hrow.blen
  have HA' := Lib.hid hA'
  clear hlen htl hA'
  go_enter Tryd.func13, Tryd.ntmps13
  go_wp2_with fail
  refine (clone_any B r0.n r0.c r0.A r0.l w hrow (by omega) hB).mono ?_
  rintro e w1 ⟨A3, m, c3, rfl, hm3, hown, hb1⟩
  have hA2 := HA'.out
  have hm3' : m = r0.l.length := hm3.out
  have hmb : m ≤ 1000000000 := by rw [hm3', hRL.out]; exact hm
  have hM := Lib.hid hm3'
  clear hm3' hm3
  go_wp2_with fail
  clear hA2
  go_loopw [18] (fun x wr => ∃ k : Nat, k ≤ n ∧ x = .int .i64 k ∧ Hid (∀ r ∈ es.take k, r.l.length = r0.l.length) ∧ Hid (wr.ownsRow w.heap.size 5 1 (.slice A3 m c3) m (bv (sumTo r0.l ((es.take k).map (·.l))))) ∧ Below w.heap.size w wr) (fun x _ => n - (intOf x).toNat)
  case atStart => exact ⟨0, by omega, rfl, fun r hr => by simp at hr, hown, hb1⟩
  case round =>
    obtain ⟨k, hk, rfl, hall, hownk, hbk⟩ := hrel
    clear hown hb1
    by_cases hlt : k < n
    · obtain ⟨b', o', rfl, r, hr, hcellk, hrowk⟩ := (htl'.below (hbk.mono hB)).at_ hlt
      have hlk := (List.getElem?_eq_some_iff.1 hr).1
      have htk : es.take (k + 1) = es.take k ++ [r] := by
        rw [List.take_succ_eq_append_getElem hlk]
        rw [List.getElem?_eq_getElem hlk] at hr
        injection hr with hr
        rw [hr]
      have HTK := Lib.hid htk
      have hmem : Hid (r ∈ es) := List.mem_of_getElem? hr
      have HRL := Lib.hid hrowk.blen
      clear htk hr
      by_cases hrm : r.n = m
      · have hne2 : ((r.n : Int) != (m : Int)) = false := by rw [hrm]; simp
        have HRM := Lib.hid hrm
        have hrm' : (r.n : Int) = (m : Int) := by omega
        clear hrm
        generalize hS : sumTo r0.l ((es.take k).map (·.l)) = S at *
        have hSl : S.length = m := by rw [← hS, sumTo_length, hM.out]
        have HS := Lib.hid hS
        have HSL := Lib.hid hSl
        clear hS hSl
        obtain ⟨rA, rn, rc, rl⟩ := r
        have hrn : rn = m := HRM.out
        subst hrn
        simp only at hcellk hrowk hne2
        go_wp2_with fail
        obtain ⟨wo, hwo⟩ : ∃ wo : World, wo = wr := ⟨_, rfl⟩
        clear hcellk
        go_loopw [29] (fun x wr => ∃ i : Nat, i ≤ rn ∧ x = .int .i64 i ∧ Hid (wr.ownsRow w.heap.size 5 1 (.slice A3 rn c3) rn (bv (xl S rl i))) ∧ Below w.heap.size w wr) (fun x _ => rn - (intOf x).toNat)
        case atStart => exact ⟨0, by omega, rfl, by rw [xl_zero]; exact hownk, hbk⟩
        case round =>
          obtain ⟨i, hi, rfl, howni, hbi⟩ := hrel
          by_cases hlt2 : i < rn
          · obtain ⟨b2, o2, rfl, _, hil, hci⟩ := ((htl'.below (hbi.mono hB)).2 _ hmem.out).byteAt hlt2
            simp only at hci hil
            obtain ⟨g, cg, hv, hg0, hgs⟩ := howni.out.form (by omega)
            injection hv with e1 e2 e3
            subst e1 e3
            have hcs := (howni.out.cellAt i (by omega)).trans (bv_getD _ i (by rw [xl_length, HSL.out]; exact hlt2))
            have hfz := howni.out.frozenAt i
            rw [xl_getD _ _ _ _ (by rw [HSL.out]; exact hlt2), if_neg (by omega)] at hcs
            have hxor := xor_int (S.getD i 0) rl[i]
            have hst := Lib.hid ((howni.out.stored i (.int .u8 ((S.getD i 0 ^^^ rl[i]).toNat : Int))).1)
            have hset : Hid ((bv (xl S rl i)).set i (.int .u8 ((S.getD i 0 ^^^ rl[i]).toNat : Int)) = bv (xl S rl (i + 1))) := by
              show _ = _
              rw [← xl_set _ _ _ (by rw [HSL.out]; exact hlt2)]
              simp [bv, List.map_set, List.getD, hil]
            generalize hx : S.getD i 0 = x at *
            generalize hy : rl[i] = y at *
            clear hx hy
            go_wp2_with fail
            go_roundw
            case rel => exact ⟨i + 1, by omega, by go_num, by rw [← hset.out]; exact hst.out, hbi.setCell hg0 _⟩
            case measure => simp [intOf]; omega
          · obtain rfl : rn = i := by omega
            go_wp2_with fail
            go_roundw
            case rel =>
              refine ⟨k + 1, by omega, by go_num, ?_, ?_, hbi⟩
              · intro q hq
                rw [HTK.out] at hq
                rcases List.mem_append.1 hq with h | h
                · exact hall.out q h
                · simp at h
                  subst h
                  show rl.length = _
                  rw [HRL.out, ← hM.out]
              · show World.ownsRow _ _ _ _ _ _ _
                rw [HTK.out, List.map_append, List.map_cons, List.map_nil, sumTo_snoc, HS.out, xorL, HSL.out]
                exact howni.out
            case measure => simp [intOf]; omega
      · have hne2 : ((r.n : Int) != (m : Int)) = true := by simp; omega
        have hF : Hid (sumF ((r0 :: es).map (·.l)) = []) := by
          show _ = _
          simp only [List.map_cons, sumF]
          rw [if_neg]
          intro h
          have := h r.l (List.mem_map.2 ⟨r, hmem.out, rfl⟩)
          rw [HRL.out, ← hM.out] at this
          exact hrm this
        clear hrm
        go_wp2_with fail
        go_ret
        exact ⟨none, 0, 0, rfl, by rw [hF.out]; rfl, by rw [hF.out]; exact World.ownsRow_nil _ _ _ _, hbk⟩
    · obtain rfl : n = k := by omega
      have hF : Hid (sumF ((r0 :: es).map (·.l)) = sumTo r0.l (es.map (·.l))) := by
        show _ = _
        simp only [List.map_cons, sumF]
        rw [if_pos]
        intro x hx
        obtain ⟨r, hr, rfl⟩ := List.mem_map.1 hx
        exact hall.out r (by rw [List.take_of_length_le (by rw [HLEN.out]; omega)]; exact hr)
      have hfin := hownk.out
      rw [List.take_of_length_le (by rw [HLEN.out]; omega), ← hF.out] at hfin
      have HFIN := Lib.hid hfin
      clear hfin
      go_wp2_with fail
      go_ret
      refine ⟨A3, m, c3, rfl, ?_, HFIN.out, hbk⟩
      exact (hM.out.trans (sumTo_length _ _).symm).trans (congrArg List.length hF.out.symm)
end Go.Proofs.YtlpmammagebkfaaDoor
namespace Go.Proofs.YtlpmammagebkfaaDoor
open Go.RowKit
/-- the first k places hold f, the rest is nought -/
def fill (n : Nat) (f : Nat → UInt8) (k : Nat) : List UInt8 := (List.range n).map fun j => if j < k then f j else 0
theorem fill_length (n : Nat) (f : Nat → UInt8) (k : Nat) : (fill n f k).length = n := by simp [fill]
theorem fill_zero (n : Nat) (f : Nat → UInt8) : fill n f 0 = List.replicate n 0 := by
  apply List.ext_getElem
  · simp [fill]
  · intro i h1 h2; simp [fill]
theorem fill_get (n : Nat) (f : Nat → UInt8) (k j : Nat) (h : j < n) : (fill n f k)[j]? = some (if j < k then f j else 0) := by
  simp [fill, h]
theorem fill_set (n : Nat) (f : Nat → UInt8) (k : Nat) (h : k < n) : (fill n f k).set k (f k) = fill n f (k + 1) := by
  apply List.ext_getElem?
  intro j
  rw [List.getElem?_set]
  by_cases hj : j < n
  · rw [fill_get n f k j hj, fill_get n f (k + 1) j hj]
    by_cases e : k = j
    · subst e; simp [fill_length, h]
    · rw [if_neg e]
      congr 1
      by_cases h1 : j < k
      · rw [if_pos h1, if_pos (by omega)]
      · rw [if_neg h1, if_neg (by omega)]
  · have h1 : (fill n f k)[j]? = none := List.getElem?_eq_none (by rw [fill_length]; omega)
    have h2 : (fill n f (k + 1))[j]? = none := List.getElem?_eq_none (by rw [fill_length]; omega)
    rw [h1, h2]
    split
    · split
      · rename_i h3; rw [fill_length] at h3; omega
      · rfl
    · rfl
theorem bv_fill_set (n : Nat) (f : Nat → UInt8) (k : Nat) (h : k < n) : (bv (fill n f k)).set k (.int .u8 ((f k).toNat : Int)) = bv (fill n f (k + 1)) := by
  rw [← fill_set n f k h]; simp [bv, List.map_set]
theorem bv_fill_get (n : Nat) (f : Nat → UInt8) (k j : Nat) (hj : j < k) (h : j < n) : (bv (fill n f k))[j]? = some (.int .u8 ((f j).toNat : Int)) := by
  rw [bv_get _ _ (by rw [fill_length]; exact h)]
  simp [fill, hj]
theorem bv_zeros (n : Nat) : List.replicate n (Value.int .u8 0) = bv (List.replicate n 0) := by simp [bv]
end Go.Proofs.YtlpmammagebkfaaDoor
namespace Go.Proofs.YtlpmammagebkfaaDoor.Pc
open Go.RowKit
open VecM RdM Vc Sp
theorem bv_xl_set (a l : List UInt8) (k : Nat) (h : k < a.length) : (bv (xl a l k)).set k (.int .u8 ((a.getD k 0 ^^^ l.getD k 0).toNat : Int)) = bv (xl a l (k + 1)) := by
  rw [← xl_set a l k h]
  simp [bv, List.map_set]
set_option maxRecDepth 100000 in
set_option maxHeartbeats 1600000 in
theorem change_any (g n c base B c2 : Nat) (A2 : Option Addr) (a l : List UInt8) (w : World) (ho : w.ownsRow base 5 1 (.slice (some ⟨g, 0, none⟩) n c) n (bv a)) (hr : Row w B A2 n (bv l)) (hB : B ≤ g) (hn : n ≤ 1000000) :
    Calls Tryd.prog 61 #[.slice (some ⟨g, 0, none⟩) n c, .slice A2 n c2] w fun e w' => e = .returned (.tuple #[]) ∧ Hid (w'.ownsRow base 5 1 (.slice (some ⟨g, 0, none⟩) n c) n (bv (xorL a l))) ∧ Hid (Below g w w') := by
  have HA := Lib.hid (Row.of_own ho).blen
  have HR := Lib.hid hr
  have HO := Lib.hid ho
  have HBG := Lib.hid hB
  clear ho hr hB
  go_enter Tryd.func61, Tryd.ntmps61
  go_wp2_with fail
  go_loopw [8] (fun x wr => ∃ k : Nat, k ≤ n ∧ x = .int .i64 k ∧ Hid (wr.ownsRow base 5 1 (.slice (some ⟨g, 0, none⟩) n c) n (bv (xl a l k))) ∧ Hid (Below g w wr)) (fun x _ => n - (intOf x).toNat)
  case atStart => exact ⟨0, by omega, rfl, by rw [xl_zero]; exact HO, Lib.hid (Below.refl _ _)⟩
  case round =>
    obtain ⟨k, hk, rfl, hown, hbk⟩ := hrel
    by_cases hlt : k < n
    · have hka : k < a.length := by rw [HA.out]; exact hlt
      obtain ⟨b2, o2, rfl, hb2, hl2, hc2⟩ := (HR.out.below (hbk.out.mono HBG.out)).byteAt hlt
      have hfz := hown.out.frozenAt k
      have hcs := (hown.out.cellAt k (by omega)).trans (bv_getD _ k (by rw [xl_length]; exact hka))
      rw [xl_getD a l k k hka, if_neg (by omega)] at hcs
      have hst := Lib.hid ((hown.out.stored k (.int .u8 ((a.getD k 0 ^^^ l.getD k 0).toNat : Int))).1)
      have hset := Lib.hid (bv_xl_set a l k hka)
      have hy : l[k] = l.getD k 0 := by simp [List.getD, hl2]
      have hxor := xor_int (a.getD k 0) (l.getD k 0)
      rw [hy] at hc2
      have hki : (k : Int) < (n : Int) := by omega
      have hkb : (k : Int) < 1000000 := by omega
      clear hy hown
      generalize a.getD k 0 = x at *
      generalize l.getD k 0 = y at *
      go_wp2_with fail
      go_roundw
      case rel => exact ⟨k + 1, by omega, by go_num, by rw [← hset.out]; exact hst, Lib.hid (hbk.out.setCell (Nat.le_refl _) _)⟩
      case measure => simp [intOf]; omega
    · obtain rfl : n = k := by omega
      have hfin : Hid (wr.ownsRow base 5 1 (.slice (some ⟨g, 0, none⟩) n c) n (bv (xorL a l))) := by
        have := hown.out
        unfold xorL
        rw [HA.out]
        exact Lib.hid this
      clear hown
      go_wp2_with fail
      first | go_end0 | (simp only [Exit.inBlock, Exit.then]; refine bodyPost_ret (results_none rfl _ _ _) rfl ?_) | refine bodyPost_ret (results_none rfl _ _ _) rfl ?_
      exact ⟨rfl, hfin, hbk⟩
/-- the sum of those of the first k rows that X has -/
def sumR (X z : Nat) (ls : List (List UInt8)) : Nat → List UInt8
  | 0 => List.replicate z 0
  | k + 1 => if X.testBit k then xorL (sumR X z ls k) (ls.getD k []) else sumR X z ls k
theorem sumR_length (X z : Nat) (ls : List (List UInt8)) : ∀ k, (sumR X z ls k).length = z
  | 0 => by simp [sumR]
  | k + 1 => by
    unfold sumR
    split
    · rw [xorL_length, sumR_length X z ls k]
    · exact sumR_length X z ls k
def SumOk (X z : Nat) (ls : List (List UInt8)) (k : Nat) (w : World) (e : Ending) (w' : World) : Prop :=
  ∃ g, e = .returned (.slice (some ⟨g, 0, none⟩) z z) ∧ Hid (w.heap.size ≤ g) ∧ Hid (w'.ownsRow w.heap.size 5 1 (.slice (some ⟨g, 0, none⟩) z z) z (bv (sumR X z ls k))) ∧ Hid (Below w.heap.size w w')
set_option maxRecDepth 100000 in
set_option maxHeartbeats 1600000 in
theorem sum_any (g0 h0 m X z n c B : Nat) (A : Option Addr) (es : List BRow) (w : World) (v : VecAt w g0 h0 m X) (hl : Rows2 w B A n es) (hes : ∀ r ∈ es, r.n = z) (hnm : n ≤ m) (hz : z ≤ 16) (hB : B ≤ w.heap.size) :
    Calls Tryd.prog 49 #[.pointer (some ⟨g0, 0, none⟩), .slice A n c, .int .i64 (z : Int)] w (SumOk X z (es.map (·.l)) n w) := by
  have hm256 := v.1
  have HV := Lib.hid v
  have HL := Lib.hid hl
  have HES := Lib.hid hes
  have HBB := Lib.hid hB
  have HNM := Lib.hid hnm
  have hmk := mk_bytes z (by omega) w
  have hn256 : (n : Int) ≤ 256 := by omega
  have HZ := Lib.hid hz
  clear v hl hes hB hnm hm256 hz
  go_enter Tryd.func49, Tryd.ntmps49
  go_wp2_with fail
  clear hmk
  have HOW : Hid ((w.alloc (.cells (Array.replicate z (.int .u8 0)) 5)).ownsRow w.heap.size 5 1 (.slice (some ⟨w.heap.size, 0, none⟩) z z) z (bv (sumR X z (es.map (·.l)) 0))) := by
    show World.ownsRow _ _ _ _ _ _ _
    have := own_lit (w := w) (base := w.heap.size) (g := w.heap.size) (n := z) (e := 5) (Array.replicate z (.int .u8 0)) rfl (Nat.le_refl _) (by simp) (by have := HZ.out; unfold maxLen; omega)
    simpa [bv, sumR] using this
  have HAL : Hid (Below w.heap.size w (w.alloc (.cells (Array.replicate z (.int .u8 0)) 5))) := (Below.refl _ _).alloc (Nat.le_refl _) _
  generalize (w.alloc (.cells (Array.replicate z (.int .u8 0)) 5)) = w2 at *
  obtain ⟨G, hG⟩ : ∃ G, w.heap.size = G := ⟨_, rfl⟩
  have HG := Lib.hid hG
  rw [hG] at HOW ⊢
  clear hG
  go_loopw [14] (fun i wr => ∃ k : Nat, k ≤ n ∧ i = .int .i64 k ∧ Hid (wr.ownsRow G 5 1 (.slice (some ⟨G, 0, none⟩) z z) z (bv (sumR X z (es.map (·.l)) k))) ∧ Hid (Below w.heap.size w wr)) (fun i _ => n - (intOf i).toNat)
  case atStart => exact ⟨0, by omega, rfl, HOW, HAL⟩
  case round =>
    obtain ⟨k, hk, rfl, hown, hbk⟩ := hrel
    clear HOW HAL
    by_cases hlt : k < n
    · have hrows := HL.out.below (hbk.out.mono HBB.out)
      obtain ⟨b, o, rfl, r, hr, hcell, hrow⟩ := hrows.at_ hlt
      have hrn := HES.out r (List.mem_of_getElem? hr)
      rw [hrn] at hrow hcell
      have hld : (es.map (·.l)).getD k [] = r.l := by simp [List.getD, hr]
      have HLD := Lib.hid hld
      have HAS := Lib.hid (has_in g0 h0 m X k wr (HV.out.below hbk.out) (by have := HNM.out; omega))
      have HCH := Lib.hid (change_any G z z G B r.c r.A (sumR X z (es.map (·.l)) k) r.l wr hown.out hrow (by have := HBB.out; have := HG.out; omega) (by have := HZ.out; omega))
      have hki : (k : Int) < (n : Int) := by omega
      clear hrows hr hrow hrn hld
      obtain ⟨T, hT⟩ : ∃ T, X.testBit k = T := ⟨_, rfl⟩
      rw [hT] at HAS
      have HT := Lib.hid hT
      clear hT
      go_wp2_with fail
      refine HAS.out.mono ?_
      rintro e w' ⟨rfl, rfl⟩
      cases T with
      | true =>
        have hnext : sumR X z (es.map (·.l)) (k + 1) = xorL (sumR X z (es.map (·.l)) k) r.l := by
          show (if X.testBit k then _ else _) = _
          rw [HT.out, HLD.out]; rfl
        rw [← hnext] at HCH
        clear hnext hown HAS
        go_wp2_with fail
        refine HCH.out.mono ?_
        rintro e w4 ⟨rfl, ho4, hb4⟩
        have hbk4 := Lib.hid (hbk.out.trans (hb4.out.mono (by rw [HG.out]; exact Nat.le_refl _)))
        clear HCH hcell hb4 hbk
        go_wp2_with fail
        go_roundw
        case rel => exact ⟨k + 1, by omega, by go_num, ho4, hbk4⟩
        case measure => simp [intOf]; omega
      | false =>
        have hnext : sumR X z (es.map (·.l)) (k + 1) = sumR X z (es.map (·.l)) k := by
          show (if X.testBit k then _ else _) = _
          rw [HT.out]; rfl
        rw [← hnext] at hown
        clear hnext HAS HCH
        go_wp2_with fail
        go_roundw
        case rel => exact ⟨k + 1, by omega, by go_num, hown, hbk⟩
        case measure => simp [intOf]; omega
    · obtain rfl : n = k := by omega
      clear hlt
      go_wp2_with fail
      go_ret
      exact ⟨G, rfl, Lib.hid (by rw [HG.out]; exact Nat.le_refl _), by rw [HG.out]; exact hown, hbk⟩
end Go.Proofs.YtlpmammagebkfaaDoor.Pc
namespace Go.Proofs.YtlpmammagebkfaaDoor.Pc
open Go.RowKit
open VecM RdM Vc Sp
def fitB (K Z n : Nat) (es : List BRow) : Bool := decide (n = K) && es.all fun r => r.n == Z
theorem fitB_yes {K Z n : Nat} {es : List BRow} : fitB K Z n es = true ↔ n = K ∧ ∀ r ∈ es, r.n = Z := by
  unfold fitB
  simp
theorem fitB_len {K Z n : Nat} {es : List BRow} (h : n ≠ K) : fitB K Z n es = false := by
  unfold fitB
  simp [h]
theorem fitB_row {K Z n : Nat} {es : List BRow} {r : BRow} (h : r ∈ es) (hr : r.n ≠ Z) : fitB K Z n es = false := by
  cases e : fitB K Z n es with
  | false => rfl
  | true => exact absurd ((fitB_yes.1 e).2 r h) hr
set_option maxRecDepth 100000 in
set_option maxHeartbeats 1600000 in
theorem fit_any (s K P Z n c B : Nat) (A : Option Addr) (es : List BRow) (w : World) (hl : Rows2 w B A n es) (hB : B ≤ w.heap.size) (hn : n ≤ 1000000) (hz : ∀ r ∈ es, r.n ≤ 1000000) :
    Calls Tryd.prog 47 #[parV s K P Z, .slice A n c] w fun e w' => e = .returned (.bool (fitB K Z n es)) ∧ Hid (Below w.heap.size w w') := by
  have HX0 := Lib.hid (heap_alloc_new w (.cells #[.int .u32 (s : Int), .int .i64 (K : Int), .int .i64 (P : Int), .int .i64 (Z : Int)] 24))
  have HB0 : Hid (Below w.heap.size w (w.alloc (.cells #[.int .u32 (s : Int), .int .i64 (K : Int), .int .i64 (P : Int), .int .i64 (Z : Int)] 24))) := (Below.refl _ _).alloc (Nat.le_refl _) _
  have HL := Lib.hid (hl.below (HB0.out.mono hB))
  have hbx := box4 HX0.out
  generalize hw0 : (w.alloc (.cells #[.int .u32 (s : Int), .int .i64 (K : Int), .int .i64 (P : Int), .int .i64 (Z : Int)] 24)) = w0 at *
  have HW0 := Lib.hid hw0
  have HBX := Lib.hid hbx
  have HZ := Lib.hid hz
  clear hl hB hbx hw0 hz
  unfold parV
  by_cases hnk : n = K
  · subst hnk
    go_enter Tryd.func47, Tryd.ntmps47
    go_upto_region 1 with fail
    rw [HW0.out]
    obtain ⟨c0, c1, c2, c3⟩ := HBX.out
    go_wp2_with fail
    go_loop [14] (fun i => ∃ k : Nat, k ≤ n ∧ i = .int .i64 k ∧ Hid (∀ r ∈ es.take k, r.n = Z)) (fun i => n - (intOf i).toNat)
    case atStart => exact ⟨0, by omega, rfl, Lib.hid (fun r hr => by simp at hr)⟩
    case round =>
      obtain ⟨k, hk, rfl, hall⟩ := hrel
      by_cases hlt : k < n
      · obtain ⟨b, o, rfl, r, hr, hcell, hrow⟩ := HL.out.at_ hlt
        have hmem := List.mem_of_getElem? hr
        have hki : (k : Int) < (n : Int) := by omega
        have hkb : (k : Int) < 1000000 := by omega
        by_cases hrz : r.n = Z
        · have hne : ((r.n : Int) != (Z : Int)) = false := by simp; omega
          have hall2 : Hid (∀ r ∈ es.take (k + 1), r.n = Z) := Lib.hid (fun q hq => by
            have hlk := (List.getElem?_eq_some_iff.1 hr).1
            rw [List.take_succ_eq_append_getElem hlk] at hq
            rcases List.mem_append.1 hq with h | h
            · exact hall.out q h
            · have e := List.mem_singleton.1 h
              rw [List.getElem?_eq_getElem hlk] at hr
              injection hr with hr
              rw [e, hr]; exact hrz)
          clear hr hmem hrow hrz
          go_wp2_with fail
          go_round
          case rel => exact ⟨k + 1, by omega, by go_num, hall2⟩
          case measure => simp [intOf]; omega
        · have hne : ((r.n : Int) != (Z : Int)) = true := by simp; omega
          have hres := Lib.hid (fitB_row (K := n) (n := n) hmem hrz)
          clear hr hmem hrow hrz hall
          go_wp2_with fail
          go_ret
          exact ⟨by rw [hres.out]; rfl, HB0⟩
      · obtain rfl : n = k := by omega
        have hes : Hid (fitB n Z n es = true) := Lib.hid (fitB_yes.2 ⟨rfl, fun r hr => hall.out r (by
          have := HL.out.1.1
          rw [List.take_of_length_le (by simp at this; omega)]; exact hr)⟩)
        clear hall hlt
        go_wp2_with fail
        go_ret
        exact ⟨by rw [hes.out]; rfl, HB0⟩
  · have hne : ((n : Int) != (K : Int)) = true := by simp; omega
    have hres := Lib.hid (fitB_len (Z := Z) (es := es) hnk)
    clear hnk
    go_enter Tryd.func47, Tryd.ntmps47
    go_upto_region 1 with fail
    rw [HW0.out]
    obtain ⟨c0, c1, c2, c3⟩ := HBX.out
    go_wp2_with fail
    go_ret
    exact ⟨by rw [hres.out]; rfl, HB0⟩
/-- a row of bytes of one's own, apart from v -/
def Pc2 (W : World) (base : Nat) (v : Value) (r : BRow) : Prop :=
  ∃ g, r.A = some ⟨g, 0, none⟩ ∧ v.ownBlock ≠ some g ∧ W.ownsRow base 5 1 (.slice r.A r.n r.c) r.n (bv r.l)
/-- v: a list of such rows, its bytes told -/
def PW (ls : List (List UInt8)) (base : Nat) (v : Value) (wr : World) : Prop :=
  ∃ es : List BRow, es.map (·.l) = ls ∧ wr.ownsRow base 25 1 v ls.length (es.map BRow.val) ∧ ∀ r ∈ es, Pc2 wr base v r
theorem PW.below {ls : List (List UInt8)} {base : Nat} {v : Value} {w w' : World} (h : PW ls base v w) (hb : Below w.heap.size w w') : PW ls base v w' := by
  obtain ⟨es, h1, h2, h3⟩ := h
  refine ⟨es, h1, own_below h2 hb, fun r hr => ?_⟩
  obtain ⟨g, a, b, c⟩ := h3 r hr
  exact ⟨g, a, b, own_below c hb⟩
theorem PW.rows {ls : List (List UInt8)} {base : Nat} {v : Value} {w : World} (h : PW ls base v w) : ∃ A c es, v = .slice A ls.length c ∧ es.map (·.l) = ls ∧ Rows2 w w.heap.size A ls.length es ∧ ls.length ≤ c := by
  obtain ⟨es, h1, h2, h3⟩ := h
  obtain ⟨A, c, rfl, hc, _⟩ := own_slice h2
  exact ⟨A, c, es, rfl, h1, ⟨Row.of_own h2, fun r hr => by obtain ⟨g, _, _, q⟩ := h3 r hr; exact Row.of_own q⟩, hc⟩
theorem PW.next {ls : List (List UInt8)} {base g0 n0 c0 : Nat} {v v' : Value} {l : List UInt8} {W2 w3 : World} {es : List BRow} (h1 : es.map (·.l) = ls) (h2 : W2.ownsRow base 25 1 v ls.length (es.map BRow.val)) (h3 : ∀ r ∈ es, Pc2 W2 base v r)
    (hv0 : v.ownBlock ≠ some g0) (ho : W2.ownsRow base 5 1 (.slice (some ⟨g0, 0, none⟩) n0 c0) n0 (bv l))
    (hown : w3.ownsRow base 25 1 v' (ls.length + 1) (es.map BRow.val ++ [.slice (some ⟨g0, 0, none⟩) n0 c0])) (hg : W2.grownBy w3 v.ownBlock) (hv : v'.ownBlock = v.ownBlock ∨ v'.ownBlock = some W2.heap.size) : PW (ls ++ [l]) base v' w3 := by
  have hmv : ∀ (r : BRow), Pc2 W2 base v r → Pc2 w3 base v' r := by
    rintro r ⟨g, a, b, c⟩
    have hlt : g < W2.heap.size := (c.lt g (by rw [a]; rfl)).2
    refine ⟨g, a, ?_, ?_⟩
    · intro e
      rcases hv with h | h
      · exact b (h.symm.trans e)
      · rw [h] at e; injection e with e; omega
    · refine ⟨c.1, ?_⟩
      rcases c.2 with h0 | ⟨g', cap, cur, e1, hbg, hgb, r3⟩
      · rw [a] at h0; exact absurd h0.1 (by intro e; cases e)
      · refine .inr ⟨g', cap, cur, e1, hbg, ?_, r3⟩
        rw [a] at e1
        injection e1 with e1
        injection e1 with e1
        injection e1 with e1
        subst e1
        rw [hg.block _ hlt (fun e => b e.symm)]; exact hgb
  refine ⟨es ++ [⟨some ⟨g0, 0, none⟩, n0, c0, l⟩], ?_, ?_, ?_⟩
  · rw [List.map_append, h1]; rfl
  · rw [List.length_append]; simpa [BRow.val] using hown
  · intro r hr
    rcases List.mem_append.1 hr with hr | hr
    · exact hmv r (h3 r hr)
    · obtain rfl := List.mem_singleton.1 hr
      exact hmv _ ⟨g0, rfl, hv0, ho⟩
end Go.Proofs.YtlpmammagebkfaaDoor.Pc
namespace Go.Proofs.YtlpmammagebkfaaDoor
open Go.RowKit
theorem wpAnyH_grow {P : Program} {md : Region.Mode} {ops : Array Oper} {Q : Exit → Act → World → Prop} {S S' : World → Prop} (h : ∀ w, S' w → S w) :
    ∀ (fuel : Nat) (listed : Array Bool) (a : Act) (w : World), wpAnyH P md ops Q S' fuel listed a w → wpAnyH P md ops Q S fuel listed a w
  | 0, _, _, _, hh => hh
  | fuel + 1, _, _, _, hh => ⟨hh.1, fun i hi => wpOp_mono (fun a' w' h' => ⟨h _ h'.1, wpAnyH_grow h fuel _ a' w' h'.2⟩) (hh.2 i hi)⟩
theorem conv_own {w : World} {base n : Nat} {A : Option Addr} {l : List UInt8} (c : Nat) (h : w.ownsRow base 5 1 (.slice A n c) n (bv l)) : ∀ W, Below w.heap.size w W → (convert 25 9 (.slice A n c)).run Tryd.prog W = .ok (.string ⟨l.toArray⟩) W := fun _W hW =>
  run_string_row (Row.of_own (own_below h hW)) c 25 9 5 Tryd.underlying25 Tryd.underlying5 Tryd.underlying9
theorem conv_row {w : World} {B n : Nat} {A : Option Addr} {l : List UInt8} (c : Nat) (h : Row w B A n (bv l)) (hB : B ≤ w.heap.size) : ∀ W, Below w.heap.size w W → (convert 25 9 (.slice A n c)).run Tryd.prog W = .ok (.string ⟨l.toArray⟩) W := fun _W hW =>
  run_string_row (h.below (hW.mono hB)) c 25 9 5 Tryd.underlying25 Tryd.underlying5 Tryd.underlying9
end Go.Proofs.YtlpmammagebkfaaDoor
