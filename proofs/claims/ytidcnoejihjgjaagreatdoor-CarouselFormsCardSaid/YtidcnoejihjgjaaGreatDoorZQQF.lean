/- A fresh row of bytes; the xor of two bytes. -/
import Derived.Laws.CopyOwn
import Derived.Deep.RegionLaw
import Derived.Deep.LoopGhost
import Derived.Laws.NewBlocks
import Derived.BigQuiet
import Derived.Deep.QuietTactic
import Derived.Deep.RegionHeld3
import Derived.Test.YtidcnoejihjgjaaGreatDoorZAQF
import Derived.Test.YtidcnoejihjgjaaGreatDoorZEQF
namespace Go.Proofs.YtidcnoejihjgjaaGreatDoor
open Go.RowKit
theorem made_list (v : Value) (n : Nat) : madeCells #[v] n = Array.replicate n v := by
  apply Array.toList_inj.1
  rw [toList_madeCells_one]; simp
theorem mk_bytes (c : Nat) (hc : c ≤ 1000000000) (w : World) : (Instr.makeSlice 22 (.int .i64 (c : Int)) (.int .i64 (c : Int))).run Tryz.prog w = .ok (.slice (some ⟨w.heap.size, 0, none⟩) c c) (w.alloc (.cells (Array.replicate c (.int .u8 0)) 5)) := by
  obtain ⟨i0, hi, hz0, hz1, hz2⟩ := info_parts Tryz.info5
  have := run_make (P := Tryz.prog) w 22 5 i0 (.int .u8 0) Tryz.underlying22 hi hz0 .i64 .i64 c c (by omega) (Int.le_refl _) (by rw [hz2]; omega) (by omega)
  simpa [hz1, Value.cells, made_list] using this
theorem xor_int (a b : UInt8) : bits .xor .u8 (a.toNat : Int) (b.toNat : Int) = ((a ^^^ b).toNat : Int) := by
  rw [u8_xor_nat _ _ (CrcM.b_lt _) (CrcM.b_lt _), ← UInt8.toNat_xor]
end Go.Proofs.YtidcnoejihjgjaaGreatDoor
namespace Go.Proofs.YtidcnoejihjgjaaGreatDoor
open Go.RowKit
def pcs (g s c k : Nat) : List Value := (List.range c).map fun j => if j < k then .slice (some ⟨g + 1 + j, 0, none⟩) s s else .slice none 0 0
theorem pcs_length (g s c k : Nat) : (pcs g s c k).length = c := by simp [pcs]
theorem pcs_zero (g s c : Nat) : List.replicate c (Value.slice none 0 0) = pcs g s c 0 := by
  apply List.ext_getElem <;> simp [pcs]
theorem pcs_get (g s c k j : Nat) (h : j < c) : (pcs g s c k)[j]? = some (if j < k then .slice (some ⟨g + 1 + j, 0, none⟩) s s else .slice none 0 0) := by simp [pcs, h]
theorem pcs_set (g s c k : Nat) (h : k < c) : (pcs g s c k).set k (.slice (some ⟨g + 1 + k, 0, none⟩) s s) = pcs g s c (k + 1) := by
  apply List.ext_getElem?
  intro j
  rw [List.getElem?_set]
  by_cases hj : j < c
  · rw [pcs_get _ _ _ _ _ hj, pcs_get _ _ _ _ _ hj]
    by_cases e : k = j
    · subst e; simp [pcs_length, h]
    · rw [if_neg e]
      by_cases h1 : j < k
      · rw [if_pos h1, if_pos (by omega)]
      · rw [if_neg h1, if_neg (by omega)]
  · have h1 : (pcs g s c k)[j]? = none := List.getElem?_eq_none (by rw [pcs_length]; omega)
    have h2 : (pcs g s c (k + 1))[j]? = none := List.getElem?_eq_none (by rw [pcs_length]; omega)
    rw [h1, h2]
    split
    · split
      · rename_i h3; rw [pcs_length] at h3; omega
      · rfl
    · rfl
def SplitW (l : List UInt8) (s c g k : Nat) (w wr : World) : Prop :=
  wr.heap.size = g + 1 + k ∧ wr.heap[g]? = some (.cells (pcs g s c k).toArray 22 (0, 0)) ∧ (∀ j, j < k → wr.heap[g + 1 + j]? = some (.cells (bv (BlkM.piece l s j)).toArray 5 (0, 0))) ∧ Below g w wr
def SplitOk (l : List UInt8) (s c : Nat) (w : World) (e : Ending) (w' : World) : Prop :=
  e = .returned (.slice (some ⟨w.heap.size, 0, none⟩) c c) ∧ SplitW l s c w.heap.size c w w'
theorem mk_rows (c : Nat) (hc : c ≤ 1000) (w : World) : (Instr.makeSlice 78 (.int .i64 (c : Int)) (.int .i64 (c : Int))).run Tryz.prog w = .ok (.slice (some ⟨w.heap.size, 0, none⟩) c c) (w.alloc (.cells (Array.replicate c (.slice none 0 0)) 22)) := by
  obtain ⟨i0, hi, hz0, hz1, hz2⟩ := info_parts Tryz.info22
  have := run_make (P := Tryz.prog) w 78 22 i0 (.slice none 0 0) Tryz.underlying78 hi hz0 .i64 .i64 c c (by omega) (Int.le_refl _) (by rw [hz2]; omega) (by omega)
  simpa [hz1, Value.cells, made_list] using this
theorem step_copy_row {P : Program} {ops : Array Oper} {o : Oper} {a : Act} {w : World} {K : Act → World → Prop} {Q : Exit → Act → World → Prop} {E : Prop} (hgd : o.guard = none) (d s : Operand) (dT sT : TypeId)
    (ho : o.op = .call { callee := .builtin .copy, args := #[d, s], argTypes := #[dT, sT] }) (elem : TypeId) (hu : P.underlying dT = some (.slice elem)) (hsz : (P.info? elem).map (·.size) = some 1)
    (g off : Nat) (ad : Addr) (dLen dCap sLen sCap : Nat) (hd : a.eval d = .slice (some ⟨g, off, none⟩) dLen dCap) (hs : a.eval s = .slice (some ad) sLen sCap)
    (cur : List Value) (t : TypeId) (hg : w.heap[g]? = some (.cells cur.toArray t (0, 0))) (cs : List Value) (hn : cs.length = Nat.min sLen dLen)
    (hsrc : ∀ j v, cs[j]? = some v → w.cell? (ad.add j) = some v)
    (hfit : off + cs.length ≤ cur.length) (h1 : ∀ v ∈ cs, v.oneCell' = true)
    (h : K (a.put o.dst (goInt cs.length)) (w.setRow g (splice cur off cs).toArray)) :
    if Region.wanted o (yielded ops a.tmps) = true then Oper.wp P o a w K Q else E := by
  have hw : Region.wanted o (yielded ops a.tmps) = true := by simp [Region.wanted, hgd]
  rw [if_pos hw]
  have hrun := run_copy_row (P := P) w dT sT o.type elem g off dLen dCap ad sLen sCap cur.toArray t cs hu hsz hg hn hsrc (by simpa using hfit) h1
  unfold Oper.wp
  simp [execOp, ho, resolve, invoke, builtin, hd, hs, hrun, Result.andThen]
  have h' : K (a.put o.dst (goInt cs.length)) (w.setRow g (cur.take off ++ (cs ++ cur.drop (off + cs.length))).toArray) := h
  exact h'
theorem split_step {l : List UInt8} {s c g k : Nat} {w wr : World} (h : SplitW l s c g k w wr) (hk : k < c) (u : Obj) :
    (wr.alloc u).cell? ⟨g, k, none⟩ = some (.slice none 0 0) ∧ (wr.alloc u).frozen? ⟨g, k, none⟩ = false ∧
    ((wr.alloc u).setCell ⟨g, k, none⟩ (.slice (some ⟨g + 1 + k, 0, none⟩) s s)).heap[g]? = some (.cells (pcs g s c (k + 1)).toArray 22 (0, 0)) ∧
    ((wr.alloc u).setCell ⟨g, k, none⟩ (.slice (some ⟨g + 1 + k, 0, none⟩) s s)).heap[g + 1 + k]? = some u ∧
    (∀ j, j < k → ((wr.alloc u).setCell ⟨g, k, none⟩ (.slice (some ⟨g + 1 + k, 0, none⟩) s s)).heap[g + 1 + j]? = some (.cells (bv (BlkM.piece l s j)).toArray 5 (0, 0))) ∧
    ((wr.alloc u).setCell ⟨g, k, none⟩ (.slice (some ⟨g + 1 + k, 0, none⟩) s s)).heap.size = g + 1 + (k + 1) ∧
    Below g w ((wr.alloc u).setCell ⟨g, k, none⟩ (.slice (some ⟨g + 1 + k, 0, none⟩) s s)) := by
  obtain ⟨h1, h2, h3, h4⟩ := h
  have hold : ∀ b, b < g + 1 + k → (wr.alloc u).heap[b]? = wr.heap[b]? := fun b hb => ((Below.refl wr.heap.size wr).alloc (Nat.le_refl _) u).block b (by omega)
  have ha : (wr.alloc u).heap[g]? = some (.cells (pcs g s c k).toArray 22 (0, 0)) := (hold g (by omega)).trans h2
  have hset := heap_setCell_same (wr.alloc u) g k (pcs g s c k).toArray 22 (.slice (some ⟨g + 1 + k, 0, none⟩) s s) ha
  refine ⟨?_, ?_, ?_, ?_, ?_, ?_, ?_⟩
  · rw [cell_of_row _ g k _ _ _ ha]; simp [pcs_get _ _ _ _ _ hk]
  · exact frozen_of_row _ g k _ _ ha
  · rw [hset]; simp [pcs_set _ _ _ _ hk]
  · rw [heap_setCell_other _ _ _ _ (by show g + 1 + k ≠ g; omega), ← h1]; exact heap_alloc_new wr u
  · intro j hj
    rw [heap_setCell_other _ _ _ _ (by show g + 1 + j ≠ g; omega), hold _ (by omega)]
    exact h3 j hj
  · simp [h1]; omega
  · exact (h4.alloc (by omega) u).setCell (Nat.le_refl _) _
def part (l : List UInt8) (s k : Nat) : List UInt8 := (l.drop (k * s)).take s
theorem piece_splice (l : List UInt8) (s k : Nat) : splice (List.replicate s (Value.int .u8 0)) 0 (bv (part l s k)) = bv (BlkM.piece l s k) := by
  simp [splice, BlkM.piece, part, bv]
set_option maxRecDepth 100000 in
set_option maxHeartbeats 1600000 in
theorem split_ok (B n cap s c : Nat) (A : Option Addr) (l : List UInt8) (w : World) (hl : Row w B A n (bv l)) (hnc : n ≤ cap) (hcap : cap ≤ 9223372036854775807) (hcN : BlkM.count n s = c) (hc0 : 0 < c) (hB : B ≤ w.heap.size) :
    Calls Tryz.prog 100 #[.slice A n cap, .int .i64 (s : Int)] w (SplitOk l s c w) := by
  obtain ⟨q1, q2, q3, q4, q5, q6, q7⟩ := count_facts n s c hcN hc0
  have HN := Lib.hid hcN
  have HB := Lib.hid hl.blen
  have hs0 : 0 < s := by omega
  have hs16 : s ≤ 16 := by omega
  have hn512 : n ≤ 512 := by omega
  have HQ7 := Lib.hid q7
  have hm1 := Lib.hid (mk_rows c (by omega))
  have hm2 := Lib.hid (mk_bytes s (by omega))
  clear hcN q1 q2 q3 q4 q6 q7
  have hm1' := hm1.out w
  go_enter Tryz.func100, Tryz.ntmps100
  go_wp2_with (go_at_call 58; refine (count_any _ _ _).mono ?_; rintro e w' ⟨rfl, rfl⟩; rw [HN.out])
  clear hm1'
  go_loopw [14] (fun i wr => ∃ k : Nat, k ≤ c ∧ i = .int .i64 k ∧ SplitW l s c w.heap.size k w wr) (fun i _ => c - (intOf i).toNat)
  case atStart =>
    refine ⟨0, by omega, rfl, by simp, ?_, fun j hj => by omega, (Below.refl _ _).alloc (Nat.le_refl _) _⟩
    rw [← pcs_zero]
    simpa using heap_alloc_new w (.cells (Array.replicate c (.slice none 0 0)) 22)
  case round =>
    obtain ⟨k, hk, rfl, hS⟩ := hrel
    generalize hg : w.heap.size = g at *
    have HG := Lib.hid hg
    clear hg
    by_cases hlt : k < c
    · obtain ⟨f1, f2, f3, f4, f5, f6, f7⟩ := split_step hS hlt (.cells (Array.replicate s (.int .u8 0)) 5)
      have hz : wr.heap.size = g + 1 + k := hS.1
      have hm2' := hm2.out wr
      rw [hz] at hm2'
      clear hz
      have F3 := Lib.hid f3
      have F4 := Lib.hid f4
      have F5 := Lib.hid f5
      have F6 := Lib.hid f6
      clear f3 f4 f5 f6
      obtain ⟨m, hm⟩ : ∃ m : Nat, m = k * s := ⟨_, rfl⟩
      have hmn : m < n := by
        have h1 : (k : Int) * (s : Int) ≤ ((c : Int) - 1) * (s : Int) := Int.mul_le_mul_of_nonneg_right (by omega) (by omega)
        have h2 := HQ7.out
        rw [hm]
        have : ((k * s : Nat) : Int) < n := by push_cast; omega
        omega
      have hw : IntKind.i64.wrap ((k : Int) * (s : Int)) = (m : Int) := by
        rw [← Int.natCast_mul, ← hm]
        exact IntWalk.i64_in _ (by omega)
      have HM := Lib.hid hm
      clear hm
      obtain ⟨b, o, rfl, hbB, _⟩ := hl.byteAt (k := m) hmn
      have hcm : ¬ cap = m := by omega
      have hmc : (m : Int) ≤ cap := by omega
      have hmn' : (m : Int) ≤ n := by omega
      have hp : (part l s k).length = Nat.min (n - m) s := by
        simp only [part, List.length_take, List.length_drop, HB.out, ← HM.out]
        show min s (n - m) = min (n - m) s
        omega
      have HP : Hid ((bv (part l s k)).length = Nat.min (n - m) s) := by rw [bv_length]; exact hp
      have hps : (part l s k).length ≤ s := by rw [hp]; exact Nat.min_le_right _ _
      have hpn : (part l s k).length ≤ n - m := by rw [hp]; exact Nat.min_le_left _ _
      have hpn2 : (part l s k).length ≤ s := hps
      go_wp2_with fail
      generalize hW1 : (wr.alloc (Obj.cells (Array.replicate s (Value.int IntKind.u8 0)) 5)).setCell { block := g, off := k } (Value.slice (some { block := g + 1 + k, off := 0 }) s s) = W1 at *
      have hcell : W1.cell? ⟨g, k, none⟩ = some (Value.slice (some { block := g + 1 + k, off := 0 }) s s) := by
        rw [cell_of_row _ g k _ _ _ F3.out]; simp [pcs_get _ _ _ _ _ hlt]
      have hsrc : Hid (∀ j v, (bv (part l s k))[j]? = some v → W1.drew.cell? ((⟨b, o + m, none⟩ : Addr).add j) = some v) := by
        have h1 := ((hl.below (f7.mono hB)).sub (k := m) (m := n - m) (A' := some ⟨b, o + m, none⟩) (by omega) (fun b' o' e _ => by injection e with e; injection e with e1 e2; subst e1 e2; rfl))
        intro j v hv
        obtain ⟨b', o', e, _, hc⟩ := h1.2 (by omega)
        injection e with e
        injection e with e1 e2
        subst e1 e2
        rw [plain_add]
        refine hc j v ?_
        have hj := (List.getElem?_eq_some_iff.1 hv).1
        rw [bv_length] at hj
        rw [← hv, part, ← HM.out, ← bv_take, ← bv_drop, List.getElem?_take_of_lt (by omega), List.getElem?_take_of_lt (by omega)]
      have HW1 := Lib.hid hW1
      clear hW1 hm2'
      go_region_law (refine step_copy_row rfl (.tmp 25) (.tmp 30) 22 22 rfl 5 Tryz.underlying22 (by kernel_rfl) (g + 1 + k) 0 ⟨b, o + m, none⟩ s s (n - m) (cap - m) (by simp [Act.eval, Act.put]) (by simp [Act.eval, Act.put, hcm]) (List.replicate s (.int .u8 0)) 5 (by show W1.heap[_]? = _; simpa using F4.out) (bv (part l s k)) HP.out hsrc.out (by rw [bv_length]; simpa using hps) (bv_one _) ?_)
      go_wp2_with fail
      go_roundw
      case rel =>
        refine ⟨k + 1, by omega, by go_num, ?_, ?_, ?_, ?_⟩
        · simpa using F6.out
        · rw [setRow_other _ _ _ _ (by omega)]; exact F3.out
        · intro j hj
          by_cases e : j = k
          · subst e
            rw [setRow_heap _ _ _ _ _ _ (show W1.drew.heap[g + 1 + j]? = _ from F4.out), piece_splice]
          · rw [setRow_other _ _ _ _ (by omega)]; exact F5.out j (by omega)
        · exact below_setRow f7.drew (by omega) _
      case measure => simp [intOf]; omega
    · have : k = c := by omega
      subst this
      have e := HG.out
      subst e
      go_wp2
      go_ret
      exact ⟨rfl, hS⟩
def splitRows (l : List UInt8) (s c g : Nat) : List BRow := (List.range c).map fun j => ⟨some ⟨g + 1 + j, 0, none⟩, s, s, BlkM.piece l s j⟩
theorem SplitW.rows {l : List UInt8} {s c g : Nat} {w w' : World} (h : SplitW l s c g c w w') : Rows2 w' w'.heap.size (some ⟨g, 0, none⟩) c (splitRows l s c g) := by
  obtain ⟨h1, h2, h3, h4⟩ := h
  refine ⟨⟨by simp [splitRows], fun _ => ⟨g, 0, rfl, by omega, fun j u hu => ?_⟩⟩, ?_⟩
  · rw [Nat.zero_add, cell_of_row _ g j _ _ _ h2]
    have hj : j < c := by have := (List.getElem?_eq_some_iff.1 hu).1; simpa [splitRows] using this
    rw [← hu]
    simp [pcs, splitRows, hj, BRow.val]
  · intro r hr
    simp only [splitRows, List.mem_map, List.mem_range] at hr
    obtain ⟨j, hj, rfl⟩ := hr
    refine ⟨by rw [bv_length, BlkM.piece_length], fun _ => ⟨g + 1 + j, 0, rfl, by omega, fun i u hu => ?_⟩⟩
    rw [Nat.zero_add, cell_of_row _ _ i _ _ _ (h3 j hj)]
    simpa using hu
end Go.Proofs.YtidcnoejihjgjaaGreatDoor
namespace Go.Proofs.YtidcnoejihjgjaaGreatDoor
open Go.RowKit
theorem split_at (g B n cap s c : Nat) (A : Option Addr) (l : List UInt8) (w : World) (hg : w.heap.size = g) (hl : Row w B A n (bv l)) (hnc : n ≤ cap) (hcap : cap ≤ 9223372036854775807) (hcN : BlkM.count n s = c) (hc0 : 0 < c) (hB : B ≤ w.heap.size) :
    Calls Tryz.prog 100 #[.slice A n cap, .int .i64 (s : Int)] w (fun e w' => e = .returned (.slice (some ⟨g, 0, none⟩) c c) ∧ SplitW l s c g c w w') := by
  subst hg
  exact split_ok B n cap s c A l w hl hnc hcap hcN hc0 hB
end Go.Proofs.YtidcnoejihjgjaaGreatDoor
