/- Contracts of the functions that the law calls, part 8. -/
import Derived.Laws.CopyOwn
import Derived.Deep.RegionLaw
import Derived.Laws.NewBlocks
import Derived.BigQuiet
import Derived.Deep.QuietTactic
import Derived.Deep.RegionHeld3
import Derived.Deep.LoopGhost
import Derived.Test.YtpmmolamdlcmnaaGreatDoorZ7
namespace Go.Proofs.YtpmmolamdlcmnaaGreatDoor
open Go.RowKit
/-- the cells of a list of c slices of s bytes, the first k made, in blocks behind g -/
def pcs (g s c k : Nat) : List Value := (List.range c).map fun j => if j < k then .slice (some ⟨g + 1 + j, 0, none⟩) s s else .slice none 0 0
theorem pcs_length (g s c k : Nat) : (pcs g s c k).length = c := by simp [pcs]
theorem pcs_zero (g s c : Nat) : List.replicate c (Value.slice none 0 0) = pcs g s c 0 := by
  apply List.ext_getElem <;> simp [pcs]
theorem pcs_get (g s c k j : Nat) (h : j < c) : (pcs g s c k)[j]? = some (if j < k then .slice (some ⟨g + 1 + j, 0, none⟩) s s else .slice none 0 0) := by simp [pcs, h]
theorem pcs_set (g s c k : Nat) (h : k < c) : (pcs g s c k).set k (.slice (some ⟨g + 1 + k, 0, none⟩) s s) = pcs g s c (k + 1) := by
  apply List.ext_getElem?
  intro j
  rw [List.getElem?_set]
  by_cases hj : j < c
  · rw [pcs_get _ _ _ _ _ hj, pcs_get _ _ _ _ _ hj]
    by_cases e : k = j
    · subst e; simp [pcs_length, h]
    · rw [if_neg e]
      by_cases h1 : j < k
      · rw [if_pos h1, if_pos (by omega)]
      · rw [if_neg h1, if_neg (by omega)]
  · have h1 : (pcs g s c k)[j]? = none := List.getElem?_eq_none (by rw [pcs_length]; omega)
    have h2 : (pcs g s c (k + 1))[j]? = none := List.getElem?_eq_none (by rw [pcs_length]; omega)
    rw [h1, h2]
    split
    · split
      · rename_i h3; rw [pcs_length] at h3; omega
      · rfl
    · rfl
def SplitW (l : List UInt8) (s c g k : Nat) (w wr : World) : Prop :=
  wr.heap.size = g + 1 + k ∧ wr.heap[g]? = some (.cells (pcs g s c k).toArray 23 (0, 0)) ∧ (∀ j, j < k → wr.heap[g + 1 + j]? = some (.cells (bv (BlkM.piece l s j)).toArray 5 (0, 0))) ∧ Below g w wr
def SplitOk (l : List UInt8) (s c : Nat) (w : World) (e : Ending) (w' : World) : Prop :=
  e = .returned (.slice (some ⟨w.heap.size, 0, none⟩) c c) ∧ SplitW l s c w.heap.size c w w'
theorem made_list (v : Value) (n : Nat) : madeCells #[v] n = Array.replicate n v := by
  apply Array.toList_inj.1
  rw [toList_madeCells_one]; simp
theorem mk_rows (c : Nat) (hc : c ≤ 1000) (w : World) : (Instr.makeSlice 71 (.int .i64 (c : Int)) (.int .i64 (c : Int))).run Tryz.prog w = .ok (.slice (some ⟨w.heap.size, 0, none⟩) c c) (w.alloc (.cells (Array.replicate c (.slice none 0 0)) 23)) := by
  obtain ⟨i0, hi, hz0, hz1, hz2⟩ := info_parts Tryz.info23
  have := run_make (P := Tryz.prog) w 71 23 i0 (.slice none 0 0) Tryz.underlying71 hi hz0 .i64 .i64 c c (by omega) (Int.le_refl _) (by rw [hz2]; omega) (by omega)
  simpa [hz1, Value.cells, made_list] using this
theorem mk_bytes (c : Nat) (hc : c ≤ 1000000000) (w : World) : (Instr.makeSlice 23 (.int .i64 (c : Int)) (.int .i64 (c : Int))).run Tryz.prog w = .ok (.slice (some ⟨w.heap.size, 0, none⟩) c c) (w.alloc (.cells (Array.replicate c (.int .u8 0)) 5)) := by
  obtain ⟨i0, hi, hz0, hz1, hz2⟩ := info_parts Tryz.info5
  have := run_make (P := Tryz.prog) w 23 5 i0 (.int .u8 0) Tryz.underlying23 hi hz0 .i64 .i64 c c (by omega) (Int.le_refl _) (by rw [hz2]; omega) (by omega)
  simpa [hz1, Value.cells, made_list] using this
theorem step_copy_row {P : Program} {ops : Array Oper} {o : Oper} {a : Act} {w : World} {K : Act → World → Prop} {Q : Exit → Act → World → Prop} {E : Prop} (hgd : o.guard = none) (d s : Operand) (dT sT : TypeId)
    (ho : o.op = .call { callee := .builtin .copy, args := #[d, s], argTypes := #[dT, sT] }) (elem : TypeId) (hu : P.underlying dT = some (.slice elem)) (hsz : (P.info? elem).map (·.size) = some 1)
    (g off : Nat) (ad : Addr) (dLen dCap sLen sCap : Nat) (hd : a.eval d = .slice (some ⟨g, off, none⟩) dLen dCap) (hs : a.eval s = .slice (some ad) sLen sCap)
    (cur : List Value) (t : TypeId) (hg : w.heap[g]? = some (.cells cur.toArray t (0, 0))) (cs : List Value) (hn : cs.length = Nat.min sLen dLen)
    (hsrc : ∀ j v, cs[j]? = some v → w.cell? (ad.add j) = some v)
    (hfit : off + cs.length ≤ cur.length) (h1 : ∀ v ∈ cs, v.oneCell' = true)
    (h : K (a.put o.dst (goInt cs.length)) (w.setRow g (splice cur off cs).toArray)) :
    if Region.wanted o (yielded ops a.tmps) = true then Oper.wp P o a w K Q else E := by
  have hw : Region.wanted o (yielded ops a.tmps) = true := by simp [Region.wanted, hgd]
  rw [if_pos hw]
  have hrun := run_copy_row (P := P) w dT sT o.type elem g off dLen dCap ad sLen sCap cur.toArray t cs hu hsz hg hn hsrc (by simpa using hfit) h1
  unfold Oper.wp
  simp [execOp, ho, resolve, invoke, builtin, hd, hs, hrun, Result.andThen]
  have h' : K (a.put o.dst (goInt cs.length)) (w.setRow g (cur.take off ++ (cs ++ cur.drop (off + cs.length))).toArray) := h
  exact h'
/-- what round k does to memory ahead of its copy -/
theorem split_step {l : List UInt8} {s c g k : Nat} {w wr : World} (h : SplitW l s c g k w wr) (hk : k < c) (u : Obj) :
    (wr.alloc u).cell? ⟨g, k, none⟩ = some (.slice none 0 0) ∧ (wr.alloc u).frozen? ⟨g, k, none⟩ = false ∧
    ((wr.alloc u).setCell ⟨g, k, none⟩ (.slice (some ⟨g + 1 + k, 0, none⟩) s s)).heap[g]? = some (.cells (pcs g s c (k + 1)).toArray 23 (0, 0)) ∧
    ((wr.alloc u).setCell ⟨g, k, none⟩ (.slice (some ⟨g + 1 + k, 0, none⟩) s s)).heap[g + 1 + k]? = some u ∧
    (∀ j, j < k → ((wr.alloc u).setCell ⟨g, k, none⟩ (.slice (some ⟨g + 1 + k, 0, none⟩) s s)).heap[g + 1 + j]? = some (.cells (bv (BlkM.piece l s j)).toArray 5 (0, 0))) ∧
    ((wr.alloc u).setCell ⟨g, k, none⟩ (.slice (some ⟨g + 1 + k, 0, none⟩) s s)).heap.size = g + 1 + (k + 1) ∧
    Below g w ((wr.alloc u).setCell ⟨g, k, none⟩ (.slice (some ⟨g + 1 + k, 0, none⟩) s s)) := by
  obtain ⟨h1, h2, h3, h4⟩ := h
  have hold : ∀ b, b < g + 1 + k → (wr.alloc u).heap[b]? = wr.heap[b]? := fun b hb => ((Below.refl wr.heap.size wr).alloc (Nat.le_refl _) u).block b (by omega)
  have ha : (wr.alloc u).heap[g]? = some (.cells (pcs g s c k).toArray 23 (0, 0)) := (hold g (by omega)).trans h2
  have hset := heap_setCell_same (wr.alloc u) g k (pcs g s c k).toArray 23 (.slice (some ⟨g + 1 + k, 0, none⟩) s s) ha
  refine ⟨?_, ?_, ?_, ?_, ?_, ?_, ?_⟩
  · rw [cell_of_row _ g k _ _ _ ha]; simp [pcs_get _ _ _ _ _ hk]
  · exact frozen_of_row _ g k _ _ ha
  · rw [hset]; simp [pcs_set _ _ _ _ hk]
  · rw [heap_setCell_other _ _ _ _ (by show g + 1 + k ≠ g; omega), ← h1]; exact heap_alloc_new wr u
  · intro j hj
    rw [heap_setCell_other _ _ _ _ (by show g + 1 + j ≠ g; omega), hold _ (by omega)]
    exact h3 j hj
  · simp [h1]; omega
  · exact (h4.alloc (by omega) u).setCell (Nat.le_refl _) _
/-- the bytes that round k copies -/
def part (l : List UInt8) (s k : Nat) : List UInt8 := (l.drop (k * s)).take s
theorem piece_splice (l : List UInt8) (s k : Nat) : splice (List.replicate s (Value.int .u8 0)) 0 (bv (part l s k)) = bv (BlkM.piece l s k) := by
  simp [splice, BlkM.piece, part, bv]
set_option maxRecDepth 100000 in
set_option maxHeartbeats 1600000 in
theorem split_ok (B n cap s c : Nat) (A : Option Addr) (l : List UInt8) (w : World) (hl : Row w B A n (bv l)) (hnc : n ≤ cap) (hcap : cap ≤ 9223372036854775807) (hcN : BlkM.count n s = c) (hc0 : 0 < c) (hB : B ≤ w.heap.size) :
    Calls Tryz.prog 75 #[.slice A n cap, .int .i64 (s : Int)] w (SplitOk l s c w) := by
  obtain ⟨q1, q2, q3, q4, q5, q6, q7⟩ := count_facts n s c hcN hc0
  have HN := Lib.hid hcN
  have HB := Lib.hid hl.blen
  have hs0 : 0 < s := by omega
  have hs16 : s ≤ 16 := by omega
  have hn512 : n ≤ 512 := by omega
  have HQ7 := Lib.hid q7
  have hm1 := Lib.hid (mk_rows c (by omega))
  have hm2 := Lib.hid (mk_bytes s (by omega))
  clear hcN q1 q2 q3 q4 q6 q7
  have hm1' := hm1.out w
  go_enter Tryz.func75, Tryz.ntmps75
  go_wp2_with (go_at_call 25; refine (count_any _ _ _).mono ?_; rintro e w' ⟨rfl, rfl⟩; rw [HN.out])
  clear hm1'
  go_loopw [14] (fun i wr => ∃ k : Nat, k ≤ c ∧ i = .int .i64 k ∧ SplitW l s c w.heap.size k w wr) (fun i _ => c - (intOf i).toNat)
  case atStart =>
    refine ⟨0, by omega, rfl, by simp, ?_, fun j hj => by omega, (Below.refl _ _).alloc (Nat.le_refl _) _⟩
    rw [← pcs_zero]
    simpa using heap_alloc_new w (.cells (Array.replicate c (.slice none 0 0)) 23)
  case round =>
    obtain ⟨k, hk, rfl, hS⟩ := hrel
    generalize hg : w.heap.size = g at *
    have HG := Lib.hid hg
    clear hg
    by_cases hlt : k < c
    · obtain ⟨f1, f2, f3, f4, f5, f6, f7⟩ := split_step hS hlt (.cells (Array.replicate s (.int .u8 0)) 5)
      have hz : wr.heap.size = g + 1 + k := hS.1
      have hm2' := hm2.out wr
      rw [hz] at hm2'
      clear hz
      have F3 := Lib.hid f3
      have F4 := Lib.hid f4
      have F5 := Lib.hid f5
      have F6 := Lib.hid f6
      clear f3 f4 f5 f6
      obtain ⟨m, hm⟩ : ∃ m : Nat, m = k * s := ⟨_, rfl⟩
      have hmn : m < n := by
        have h1 : (k : Int) * (s : Int) ≤ ((c : Int) - 1) * (s : Int) := Int.mul_le_mul_of_nonneg_right (by omega) (by omega)
        have h2 := HQ7.out
        rw [hm]
        have : ((k * s : Nat) : Int) < n := by push_cast; omega
        omega
      have hw : IntKind.i64.wrap ((k : Int) * (s : Int)) = (m : Int) := by
        rw [← Int.natCast_mul, ← hm]
        exact IntWalk.i64_in _ (by omega)
      have HM := Lib.hid hm
      clear hm
      obtain ⟨b, o, rfl, hbB, _⟩ := hl.byteAt (k := m) hmn
      have hcm : ¬ cap = m := by omega
      have hmc : (m : Int) ≤ cap := by omega
      have hmn' : (m : Int) ≤ n := by omega
      have hp : (part l s k).length = Nat.min (n - m) s := by
        simp only [part, List.length_take, List.length_drop, HB.out, ← HM.out]
        show min s (n - m) = min (n - m) s
        omega
      have HP : Hid ((bv (part l s k)).length = Nat.min (n - m) s) := by rw [bv_length]; exact hp
      have hps : (part l s k).length ≤ s := by rw [hp]; exact Nat.min_le_right _ _
      have hpn : (part l s k).length ≤ n - m := by rw [hp]; exact Nat.min_le_left _ _
      have hpn2 : (part l s k).length ≤ s := hps
      go_wp2_with fail
      generalize hW1 : (wr.alloc (Obj.cells (Array.replicate s (Value.int IntKind.u8 0)) 5)).setCell { block := g, off := k } (Value.slice (some { block := g + 1 + k, off := 0 }) s s) = W1 at *
      have hcell : W1.cell? ⟨g, k, none⟩ = some (Value.slice (some { block := g + 1 + k, off := 0 }) s s) := by
        rw [cell_of_row _ g k _ _ _ F3.out]; simp [pcs_get _ _ _ _ _ hlt]
      have hsrc : Hid (∀ j v, (bv (part l s k))[j]? = some v → W1.drew.cell? ((⟨b, o + m, none⟩ : Addr).add j) = some v) := by
        have h1 := ((hl.below (f7.mono hB)).sub (k := m) (m := n - m) (A' := some ⟨b, o + m, none⟩) (by omega) (fun b' o' e _ => by injection e with e; injection e with e1 e2; subst e1 e2; rfl))
        intro j v hv
        obtain ⟨b', o', e, _, hc⟩ := h1.2 (by omega)
        injection e with e
        injection e with e1 e2
        subst e1 e2
        rw [plain_add]
        refine hc j v ?_
        have hj := (List.getElem?_eq_some_iff.1 hv).1
        rw [bv_length] at hj
        rw [← hv, part, ← HM.out, ← bv_take, ← bv_drop, List.getElem?_take_of_lt (by omega), List.getElem?_take_of_lt (by omega)]
      have HW1 := Lib.hid hW1
      clear hW1 hm2'
      go_region_law (refine step_copy_row rfl (.tmp 25) (.tmp 30) 23 23 rfl 5 Tryz.underlying23 (by kernel_rfl) (g + 1 + k) 0 ⟨b, o + m, none⟩ s s (n - m) (cap - m) (by simp [Act.eval, Act.put]) (by simp [Act.eval, Act.put, hcm]) (List.replicate s (.int .u8 0)) 5 (by show W1.heap[_]? = _; simpa using F4.out) (bv (part l s k)) HP.out hsrc.out (by rw [bv_length]; simpa using hps) (bv_one _) ?_)
      go_wp2_with fail
      go_roundw
      case rel =>
        refine ⟨k + 1, by omega, by go_num, ?_, ?_, ?_, ?_⟩
        · simpa using F6.out
        · rw [setRow_other _ _ _ _ (by omega)]; exact F3.out
        · intro j hj
          by_cases e : j = k
          · subst e
            rw [setRow_heap _ _ _ _ _ _ (show W1.drew.heap[g + 1 + j]? = _ from F4.out), piece_splice]
          · rw [setRow_other _ _ _ _ (by omega)]; exact F5.out j (by omega)
        · exact below_setRow f7.drew (by omega) _
      case measure => simp [intOf]; omega
    · have : k = c := by omega
      subst this
      have e := HG.out
      subst e
      go_wp2
      go_ret
      exact ⟨rfl, hS⟩
set_option maxRecDepth 100000 in
set_option maxHeartbeats 800000 in
theorem split_no (n cap : Nat) (A : Option Addr) (s : Int) (w : World) (hcN : BlkM.count n s = 0) :
    Calls Tryz.prog 75 #[.slice A n cap, .int .i64 s] w (fun e w' => e = .returned (.slice (some ⟨w.heap.size, 0, none⟩) 0 0) ∧ Below w.heap.size w w') := by
  have HN := Lib.hid hcN
  have hm1 : (Instr.makeSlice 71 (.int .i64 0) (.int .i64 0)).run Tryz.prog w = .ok (.slice (some ⟨w.heap.size, 0, none⟩) 0 0) (w.alloc (.cells (Array.replicate 0 (.slice none 0 0)) 23)) := mk_rows 0 (by omega) w
  clear hcN
  go_enter Tryz.func75, Tryz.ntmps75
  go_wp2_with (go_at_call 25; refine (count_any _ _ _).mono ?_; rintro e w' ⟨rfl, rfl⟩; rw [HN.out])
  clear hm1
  go_loopw [14] (fun i wr => i = .int .i64 0 ∧ Below w.heap.size w wr) (fun i _ => 0)
  case atStart => exact ⟨rfl, (Below.refl _ _).alloc (Nat.le_refl _) _⟩
  case round =>
    obtain ⟨rfl, hS⟩ := hrel
    go_wp2
    go_ret
    exact ⟨rfl, hS⟩
def splitRows (l : List UInt8) (s c g : Nat) : List BRow := (List.range c).map fun j => ⟨some ⟨g + 1 + j, 0, none⟩, s, s, BlkM.piece l s j⟩
theorem splitRows_flat (l : List UInt8) (s c g : Nat) (h : l.length ≤ c * s) : flat (splitRows l s c g) = BlkM.pad l (c * s) := by
  rw [← BlkM.pieces_flat l s c h]
  simp [flat, splitRows, List.flatMap_map, List.flatMap_def]
  rfl
theorem SplitW.rows {l : List UInt8} {s c g : Nat} {w w' : World} (h : SplitW l s c g c w w') : Rows2 w' w'.heap.size (some ⟨g, 0, none⟩) c (splitRows l s c g) := by
  obtain ⟨h1, h2, h3, h4⟩ := h
  refine ⟨⟨by simp [splitRows], fun _ => ⟨g, 0, rfl, by omega, fun j u hu => ?_⟩⟩, ?_⟩
  · rw [Nat.zero_add, cell_of_row _ g j _ _ _ h2]
    have hj : j < c := by have := (List.getElem?_eq_some_iff.1 hu).1; simpa [splitRows] using this
    rw [← hu]
    simp [pcs, splitRows, hj, BRow.val]
  · intro r hr
    simp only [splitRows, List.mem_map, List.mem_range] at hr
    obtain ⟨j, hj, rfl⟩ := hr
    refine ⟨by rw [bv_length, BlkM.piece_length], fun _ => ⟨g + 1 + j, 0, rfl, by omega, fun i u hu => ?_⟩⟩
    rw [Nat.zero_add, cell_of_row _ _ i _ _ _ (h3 j hj)]
    simpa using hu
end Go.Proofs.YtpmmolamdlcmnaaGreatDoor
namespace Go.Proofs.YtpmmolamdlcmnaaGreatDoor
open Go.RowKit
def joinF (es : List BRow) (len : Int) : List UInt8 := if len < 1 ∨ 512 < len then [] else if ((flat es).length : Int) < len then [] else (flat es).take len.toNat
def so (es : List BRow) (L k : Nat) : List UInt8 := (flat (es.take k)).take L
theorem so_le (es : List BRow) (L k : Nat) : (so es L k).length ≤ L := by simp [so]; omega
theorem so_next (es : List BRow) (L k : Nat) (r : BRow) (h : es[k]? = some r) (p : Nat) (hp : p = min r.l.length (L - (so es L k).length)) : so es L (k + 1) = so es L k ++ r.l.take p := by
  have hlk := (List.getElem?_eq_some_iff.1 h).1
  rw [List.getElem?_eq_getElem hlk] at h
  injection h with h
  have e1 : so es L (k + 1) = (flat (es.take k) ++ r.l).take L := by
    unfold so
    rw [List.take_succ_eq_append_getElem hlk, h, flat_snoc]
  have e2 : (so es L k).length = min L (flat (es.take k)).length := by unfold so; rw [List.length_take]
  rw [e1, List.take_append]
  show _ = (flat (es.take k)).take L ++ _
  congr 1
  rw [hp, e2]
  by_cases hy : r.l.length ≤ L - (flat (es.take k)).length
  · rw [show min r.l.length (L - min L (flat (es.take k)).length) = r.l.length by omega, List.take_length, List.take_of_length_le hy]
  · rw [show min r.l.length (L - min L (flat (es.take k)).length) = L - (flat (es.take k)).length by omega]
set_option maxRecDepth 100000 in
set_option maxHeartbeats 400000 in
theorem join_out (n cap : Nat) (A : Option Addr) (len : Int) (w : World) (h : len < 1 ∨ 512 < len) :
    Calls Tryz.prog 29 #[.slice A n cap, .int .i64 len] w (FreshBytes w.heap.size [] w) := by
  by_cases h1 : len < 1
  · go_enter Tryz.func29, Tryz.ntmps29
    go_wp2
    go_ret
    exact ⟨none, 0, 0, rfl, rfl, World.ownsRow_nil _ _ _ _, Below.refl _ _⟩
  · have h2 : 512 < len := by omega
    go_enter Tryz.func29, Tryz.ntmps29
    go_wp2
    go_ret
    exact ⟨none, 0, 0, rfl, rfl, World.ownsRow_nil _ _ _ _, Below.refl _ _⟩
set_option maxRecDepth 100000 in
set_option maxHeartbeats 800000 in
theorem join_in (B n cap : Nat) (A : Option Addr) (es : List BRow) (L : Nat) (w : World) (hl : Rows2 w B A n es) (h1 : 1 ≤ L) (h2 : L ≤ 512) (hn : n ≤ 1000000000000000000) (hB : B ≤ w.heap.size) (hbig : ∀ r ∈ es, r.n ≤ r.c ∧ r.c ≤ 9223372036854775807) :
    Calls Tryz.prog 29 #[.slice A n cap, .int .i64 (L : Int)] w (FreshBytes w.heap.size (joinF es L) w) := by
  obtain ⟨i0, hi, hz0, hz1, hz2⟩ := info_parts Tryz.info5
  have hN : es.length = n := by have := hl.1.1; simpa using this
  have HN := Lib.hid hN
  have HBIG := Lib.hid hbig
  clear hN hbig
  go_enter Tryz.func29, Tryz.ntmps29
  go_wp2_with (at_make; refine wpList_make_own _ rfl _ _ 23 rfl w.heap.size 5 i0 (.int .u8 0) 1 Tryz.underlying23 hi hz0 hz1 .i64 .i64 _ L rfl rfl (by omega) (by rw [hz2]; omega) (by unfold maxLen; omega) (by simp) ?_; intro w1 hown1 hg1)
  go_loopw [5, 18] (fun v i wr => ∃ k : Nat, k ≤ n ∧ i = .int .i64 k ∧ wr.ownsRow w.heap.size 5 1 v (so es L k).length (bv (so es L k)) ∧ Below w.heap.size w wr) (fun _ i _ => n - (intOf i).toNat)
  case atStart => exact ⟨0, by omega, rfl, by simpa [so, flat, bv] using hown1, (Below.refl _ _).grown hg1 (Nat.le_refl _) (by intro g h; nomatch h)⟩
  case round =>
    obtain ⟨k, hk, rfl, hown, hbk⟩ := hrel
    clear hown1 hg1
    have hsl := so_le es L k
    by_cases hlt : k < n
    · obtain ⟨b, o, rfl, r, hr, hcell, hrow⟩ := (hl.below (hbk.mono hB)).at_ hlt
      obtain ⟨hrn, hrc⟩ := HBIG.out r (List.mem_of_getElem? hr)
      obtain ⟨p, hp⟩ : ∃ p, p = min r.n (L - (so es L k).length) := ⟨_, rfl⟩
      have hnx := Lib.hid (so_next es L k r hr p (by rw [hrow.blen]; exact hp))
      have hlk := (List.getElem?_eq_some_iff.1 hr).1
      generalize hQ : so es L k = Q at *
      have HQ := Lib.hid hQ
      clear hQ hr
      generalize hq : Q.length = q at *
      have HQL := Lib.hid hq
      clear hq
      obtain ⟨Aq, cq, rfl, _⟩ := own_slice hown
      have hpn : p ≤ r.n := by omega
      have hpl : p ≤ L - q := by omega
      have hmin : (if (L : Int) - (q : Int) < (r.n : Int) then (L : Int) - (q : Int) else (r.n : Int)) = (p : Int) := by split <;> omega
      clear hp
      have hpc : (p : Int) ≤ (r.c : Int) := by omega
      have hhead : Row wr B r.A p (bv (r.l.take p)) := by rw [← bv_take]; exact hrow.head hpn
      go_wp2_with (at_builtin; refine wpList_app rfl (.tmp 22) (.tmp 31) 23 rfl w.heap.size 5 i0 (.int .u8 0) 1 Tryz.underlying23 hi hz0 hz1 hz2 rfl _ _ _ rfl hown B r.A p r.c (bv (r.l.take p)) rfl hhead (bv_one _) (by unfold maxLen; omega) (by omega) hbk.size ?_; intro v2 w2 hown2 hg2 hat2)
      have hb2 := below_app hbk hbk.size hown (Nat.le_refl _) hg2
      have hown3 : w2.ownsRow w.heap.size 5 1 v2 (so es L (k + 1)).length (bv (so es L (k + 1))) := by
        rw [hnx.out, bv_append, List.length_append, HQL.out, List.length_take, hrow.blen, Nat.min_eq_left hpn]
        exact hown2
      clear hown hown2 hg2 hat2
      go_roundw
      case rel => exact ⟨k + 1, by omega, by go_num, hown3, hb2⟩
      case measure => simp [intOf]; omega
    · have : k = n := by omega
      subst this
      have hall : so es L k = (flat es).take L := by unfold so; rw [show es.take k = es from List.take_of_length_le (by rw [HN.out]; omega)]
      rw [hall] at hown hsl
      have HJ : Hid (joinF es L = if (flat es).length < L then [] else (flat es).take L) := by
        show _ = _
        unfold joinF
        rw [if_neg (by omega)]
        by_cases hx : (flat es).length < L
        · rw [if_pos hx, if_pos (by omega)]
        · rw [if_neg hx, if_neg (by omega)]; rfl
      clear hall
      by_cases hx : (flat es).length < L
      · have hq : ((flat es).take L).length < L := by rw [List.length_take]; omega
        obtain ⟨A4, c4, rfl, _⟩ := own_slice hown
        generalize hql : ((flat es).take L).length = q at *
        clear hql
        go_wp2
        go_ret
        refine ⟨none, 0, 0, rfl, ?_, ?_, hbk⟩
        · rw [HJ.out, if_pos hx]; rfl
        · rw [HJ.out, if_pos hx]; exact World.ownsRow_nil _ _ _ _
      · have hq : ((flat es).take L).length = L := by rw [List.length_take]; omega
        rw [hq] at hown
        have HQ := Lib.hid hq
        clear hq hsl
        obtain ⟨A4, c4, rfl, _⟩ := own_slice hown
        go_wp2
        go_ret
        refine ⟨A4, L, c4, rfl, ?_, ?_, hbk⟩
        · rw [HJ.out, if_neg hx]; exact HQ.out.symm
        · rw [HJ.out, if_neg hx]; exact hown
end Go.Proofs.YtpmmolamdlcmnaaGreatDoor
namespace Go.Proofs.YtpmmolamdlcmnaaGreatDoor
open Go.RowKit
theorem join_at (g : Nat) (B n cap : Nat) (es : List BRow) (w : World) (hl : Rows2 w B (some ⟨g, 0, none⟩) n es) (hn : n ≤ 1000000000000000000) (hB : B ≤ w.heap.size) (hbig : ∀ r ∈ es, r.n ≤ r.c ∧ r.c ≤ 9223372036854775807) (L : Int) :
    Calls Tryz.prog 29 #[.slice (some ⟨g, 0, none⟩) n cap, .int .i64 L] w (FreshBytes w.heap.size (joinF es L) w) := by
  by_cases h : L < 1 ∨ 512 < L
  · rw [show joinF es L = [] by unfold joinF; rw [if_pos h]]
    exact join_out n cap _ L w h
  · obtain ⟨k, rfl⟩ : ∃ k : Nat, L = k := ⟨L.toNat, by omega⟩
    exact join_in B n cap _ es k w hl (by omega) (by omega) hn hB hbig
theorem splitRows_big (l : List UInt8) (s c g : Nat) (hs : s ≤ 1000) : ∀ r ∈ splitRows l s c g, r.n ≤ r.c ∧ r.c ≤ 9223372036854775807 := by
  intro r hr
  simp only [splitRows, List.mem_map, List.mem_range] at hr
  obtain ⟨j, hj, rfl⟩ := hr
  exact ⟨Nat.le_refl _, by show s ≤ _; omega⟩
theorem split_join {l : List UInt8} {s c g : Nat} {w w' : World} (h : SplitW l s c g c w w') (hs : s ≤ 1000) (hc : c ≤ 1000000000) (L : Int) :
    Calls Tryz.prog 29 #[.slice (some ⟨g, 0, none⟩) c c, .int .i64 L] w' (FreshBytes w'.heap.size (joinF (splitRows l s c g) L) w') :=
  join_at g _ c c _ w' h.rows (by omega) (Nat.le_refl _) (splitRows_big l s c g hs) L
theorem split_at (g B n cap s c : Nat) (A : Option Addr) (l : List UInt8) (w : World) (hg : w.heap.size = g) (hl : Row w B A n (bv l)) (hnc : n ≤ cap) (hcap : cap ≤ 9223372036854775807) (hcN : BlkM.count n s = c) (hc0 : 0 < c) (hB : B ≤ w.heap.size) :
    Calls Tryz.prog 75 #[.slice A n cap, .int .i64 (s : Int)] w (fun e w' => e = .returned (.slice (some ⟨g, 0, none⟩) c c) ∧ SplitW l s c g c w w') := by
  subst hg
  exact split_ok B n cap s c A l w hl hnc hcap hcN hc0 hB
theorem awake10_l1 : BlkM.piece [1, 2, 3] 2 1 = [3, 0] := by decide +kernel
theorem awake10_j (g : Nat) : joinF (splitRows [1, 2, 3] 2 2 g) 3 = [1, 2, 3] := by
  unfold joinF
  rw [splitRows_flat _ _ _ _ (by simp)]
  decide
end Go.Proofs.YtpmmolamdlcmnaaGreatDoor
namespace Go.Proofs.YtpmmolamdlcmnaaGreatDoor.Dc
open Go.RowKit
open SoM
theorem cells_set_other {w : World} {g o p : Nat} {cs : Array Value} {T : TypeId} {v u : Value} (h : w.heap[g]? = some (.cells cs T (0, 0))) (hp : cs[p]? = some u) (hne : o ≠ p) : ∃ cs2, (w.setCell ⟨g, o, none⟩ v).heap[g]? = some (.cells cs2 T (0, 0)) ∧ cs2[p]? = some u := by
  refine ⟨_, heap_setCell_same w g o _ _ v h, ?_⟩
  simp [hne, hp]
theorem cell_at {w : World} {g p : Nat} {cs : Array Value} {T : TypeId} {u : Value} (h : w.heap[g]? = some (.cells cs T (0, 0))) (hp : cs[p]? = some u) : w.cell? ⟨g, p, none⟩ = some u := by
  rw [cell_of_row w g _ _ T (0, 0) h]; exact hp
/-- the struct, its Once being done -/
def Locked (g o : Nat) (T : TypeId) (w : World) : Prop := ∃ cs, w.heap[g]? = some (.cells cs T (0, 0)) ∧ cs[o]? = some (.int .u32 0) ∧ cs[o + 1]? = some (.int .i32 1)
set_option maxRecDepth 100000 in
set_option maxHeartbeats 3200000 in
theorem slow_gen (g o : Nat) (T : TypeId) (cs : Array Value) (c : Value) (R : World → Prop) (w : World) (h : w.heap[g]? = some (.cells cs T (0, 0))) (hd : cs[o]? = some (.int .u32 0)) (hm : cs[o + 1]? = some (.int .i32 0))
    (HF : Calls Tryz.prog 27 #[c] (w.setCell ⟨g, o + 1, none⟩ (.int .i32 1)) fun e w2 => e = .returned (.tuple #[]) ∧ Hid (R w2) ∧ Hid (Locked g o T w2)) :
    Calls Tryz.prog 54 #[.pointer (some ⟨g, o, none⟩), .func (.func 27) #[] #[c]] w fun e w' => e = .returned (.tuple #[]) ∧ ∃ w2, Hid (R w2) ∧ w' = (w2.drew.setCell ⟨g, o, none⟩ (.int .u32 1)).setCell ⟨g, o + 1, none⟩ (.int .i32 0) := by
  have HC := Lib.hid (cell_at h hm)
  have HZ := Lib.hid (frozen_of_row w g (o + 1) _ _ h)
  have HD : Hid ((w.setCell ⟨g, o + 1, none⟩ (.int .i32 1)).cell? ⟨g, o, none⟩ = some (.int .u32 0)) := by
    obtain ⟨cs2, h1, h2⟩ := cells_set_other (o := o + 1) (v := .int .i32 1) h hd (by omega)
    exact cell_at h1 h2
  have HFF := Lib.hid HF
  have hnot : ∀ (x : Bool) (w : World), (Op.unary .not (.bool x)).run Tryz.prog w = .ok (.bool (!x)) w := fun _ _ => rfl
  clear h hd hm HF
  go_enter_defers Tryz.func54, Tryz.ntmps54
  go_wp2_with (first | (go_at_call 77; refine (lock_free ⟨g, o + 1, none⟩ _ HC.out HZ.out).mono ?_; rintro e w' ⟨rfl, rfl⟩) | (go_at_call 53; refine (bload_no _ _ HD.out).mono ?_; rintro e w' ⟨rfl, rfl⟩))
  refine HFF.out.mono ?_
  rintro e w2 ⟨rfl, HR, HL⟩
  clear HC HZ HD HFF
  go_wp2
  obtain ⟨cs2, h2, hd2, hm2⟩ := HL.out
  have h2d : w2.drew.heap[g]? = some (.cells cs2 T (0, 0)) := h2
  obtain ⟨cs3, h3, hm3⟩ := cells_set_other (o := o) (v := .int .u32 1) h2d hm2 (by omega)
  refine leaves_cons (f := 79) (args := #[.pointer (some ⟨g, o, none⟩), .bool true]) (by simp) (by simp [go_sem]) ?_
  refine (store_deferred ⟨g, o, none⟩ (.int .u32 0) .returning _ (cell_at h2 hd2) (frozen_of_row _ g o _ _ h2)).mono ?_
  rintro e u' w'' ⟨rfl, rfl, rfl⟩
  refine leaves_cons (f := 78) (args := #[.pointer (some ⟨g, o + 1, none⟩)]) (by simp [settle]) (by simp [go_sem]) ?_
  refine (unlock_deferred ⟨g, o + 1, none⟩ _ _ (cell_at h3 hm3) (frozen_of_row _ g (o + 1) _ _ h3)).mono ?_
  rintro e u' w'' ⟨rfl, rfl, rfl⟩
  simp [Leaves, settle, results, Tryz.results54]
  exact ⟨w2, HR, rfl⟩
set_option maxRecDepth 100000 in
theorem do_gen (g o : Nat) (T : TypeId) (cs : Array Value) (c : Value) (R : World → Prop) (w : World) (h : w.heap[g]? = some (.cells cs T (0, 0))) (hd : cs[o]? = some (.int .u32 0)) (hm : cs[o + 1]? = some (.int .i32 0))
    (HF : Calls Tryz.prog 27 #[c] (w.setCell ⟨g, o + 1, none⟩ (.int .i32 1)) fun e w2 => e = .returned (.tuple #[]) ∧ Hid (R w2) ∧ Hid (Locked g o T w2)) :
    Calls Tryz.prog 26 #[.pointer (some ⟨g, o, none⟩), .func (.func 27) #[] #[c]] w fun e w' => e = .returned (.tuple #[]) ∧ ∃ w2, Hid (R w2) ∧ w' = (w2.drew.setCell ⟨g, o, none⟩ (.int .u32 1)).setCell ⟨g, o + 1, none⟩ (.int .i32 0) := by
  have HD := Lib.hid (cell_at h hd)
  have HS := Lib.hid (slow_gen g o T cs c R w h hd hm HF)
  have hnot : ∀ (x : Bool) (w : World), (Op.unary .not (.bool x)).run Tryz.prog w = .ok (.bool (!x)) w := fun _ _ => rfl
  clear h hd hm HF
  go_enter Tryz.func26, Tryz.ntmps26
  go_wp2_with (go_at_call 53; refine (bload_no _ _ HD.out).mono ?_; rintro e w' ⟨rfl, rfl⟩)
  refine HS.out.mono ?_
  rintro e w3 ⟨rfl, w2, HR, rfl⟩
  go_wp2
  go_end0
  exact ⟨rfl, w2, HR, rfl⟩
set_option maxRecDepth 100000 in
theorem do_done_gen (g o : Nat) (T : TypeId) (cs : Array Value) (f : Value) (w : World) (h : w.heap[g]? = some (.cells cs T (0, 0))) (hd : cs[o]? = some (.int .u32 1)) :
    Calls Tryz.prog 26 #[.pointer (some ⟨g, o, none⟩), f] w (fun e w' => e = .returned (.tuple #[]) ∧ w = w') := by
  have HD := Lib.hid (cell_at h hd)
  have hnot : ∀ (x : Bool) (w : World), (Op.unary .not (.bool x)).run Tryz.prog w = .ok (.bool (!x)) w := fun _ _ => rfl
  clear h hd
  go_enter Tryz.func26, Tryz.ntmps26
  go_wp2_with (go_at_call 53; refine (bload_yes _ _ HD.out).mono ?_; rintro e w' ⟨rfl, rfl⟩)
  go_end0
  exact ⟨rfl, rfl⟩
end Go.Proofs.YtpmmolamdlcmnaaGreatDoor.Dc
namespace Go.Proofs.YtpmmolamdlcmnaaGreatDoor.Pc
open Go.RowKit
open VecM RdM Vc Sp
def odd (x : Int) : Bool := (x % 2 == 1)
/-- the row of one piece of parity, its first k places told -/
def parX (x0 : Int) (b : Nat) : Nat → Nat
  | 0 => 2 ^ b
  | k + 1 => put (parX x0 b k) k (odd (mx (shk x0 (k + 1))))
theorem ofL_one' (n i : Nat) (h : i < n) : ofL n [(i : Int)] = 2 ^ i := by
  unfold ofL
  simp only [List.foldl_cons, List.foldl_nil]
  unfold setOne
  rw [if_pos (by omega)]
  simp
abbrev SPar (wc : World) (g1 s K P Z : Nat) (W : World) : Prop :=
  Below wc.heap.size wc W ∧ W.cell? ⟨g1, 0, none⟩ = some (.int .u32 (s : Int)) ∧ W.cell? ⟨g1, 1, none⟩ = some (.int .i64 (K : Int)) ∧ W.cell? ⟨g1, 2, none⟩ = some (.int .i64 (P : Int)) ∧ W.cell? ⟨g1, 3, none⟩ = some (.int .i64 (Z : Int))
theorem spar_keep {wc : World} {g1 s K P Z : Nat} {t1 : TypeId} (h1 : wc.heap[g1]? = some (.cells #[.int .u32 (s : Int), .int .i64 (K : Int), .int .i64 (P : Int), .int .i64 (Z : Int)] t1 (0, 0))) (W : World) (hW : Below wc.heap.size wc W) : SPar wc g1 s K P Z W :=
  ⟨hW, box4 ((hW.block g1 (Array.getElem?_eq_some_iff.1 h1).1).trans h1)⟩
theorem spar_next {wc W W' : World} {g1 s K P Z : Nat} (h : SPar wc g1 s K P Z W) (hb : Below W.heap.size W W') : Below wc.heap.size wc W' := h.1.trans (hb.mono h.1.size)
theorem spar_alloc {wc W : World} {g1 s K P Z : Nat} (h : SPar wc g1 s K P Z W) (o : Obj) : Below wc.heap.size wc (W.alloc o) := h.1.alloc h.1.size o
theorem spar_below {wc W : World} {g1 s K P Z : Nat} (h : SPar wc g1 s K P Z W) : Below wc.heap.size wc W := h.1
theorem row1 (W W1 : World) (q : Nat) (hb : Below (W.alloc (.cells #[.int .i64 (q : Int)] 3)).heap.size (W.alloc (.cells #[.int .i64 (q : Int)] 3)) W1) : Row W1 W1.heap.size (some ⟨W.heap.size, 0, none⟩) 1 (nv [(q : Int)]) := by
  have hr : Row (W.alloc (.cells #[.int .i64 (q : Int)] 3)) (W.heap.size + 1) (some ⟨W.heap.size, 0, none⟩) 1 (nv [(q : Int)]) := row_new W #[.int .i64 (q : Int)] 3 (0, 0)
  have hs : (W.alloc (.cells #[.int .i64 (q : Int)] 3)).heap.size = W.heap.size + 1 := by simp
  rw [← hs] at hr
  exact (hr.below hb).more hb.size
set_option maxRecDepth 100000 in
set_option maxHeartbeats 1600000 in
theorem parity_any (s K P Z j : Nat) (w : World) (hs : s < 4294967296) (hK : 1 ≤ K ∧ K ≤ 64) (hP : P ≤ 16) (hZ : 1 ≤ Z ∧ Z ≤ 16) (hj : j < P) : Calls Tryz.prog 36 #[parV s K P Z, .int .i64 (j : Int)] w (OfOk (K + P) (parX (seed (s : Int) (2147483648 + (j : Int))) (K + j) K) w) := by
  have HX0 := Lib.hid (heap_alloc_new w (.cells #[.int .u32 (s : Int), .int .i64 (K : Int), .int .i64 (P : Int), .int .i64 (Z : Int)] 35))
  have HB0 : Hid (Below w.heap.size w (w.alloc (.cells #[.int .u32 (s : Int), .int .i64 (K : Int), .int .i64 (P : Int), .int .i64 (Z : Int)] 35))) := (Below.refl _ _).alloc (Nat.le_refl _) _
  obtain ⟨q, hq⟩ : ∃ q, K + j = q := ⟨_, rfl⟩
  obtain ⟨n, hn⟩ : ∃ n, K + P = n := ⟨_, rfl⟩
  have hPi := fun W => pieces_any s (K : Int) (P : Int) (Z : Int) W (by omega) (by omega)
  rw [show mayB (K : Int) (P : Int) (Z : Int) = true from (mayB_iff _ _ _).2 (by omega), if_pos rfl, show (K : Int) + (P : Int) = (n : Int) by omega] at hPi
  have hO := fun W (A : Option Addr) (c : Nat) (hr : Row W W.heap.size A 1 (nv [(q : Int)])) => of_any n A 1 c W.heap.size [(q : Int)] W hr (Nat.le_refl _) (by omega) (by omega)
  rw [ofL_one' n q (by omega)] at hO
  obtain ⟨x0, hx0⟩ : ∃ x0, seed (s : Int) (2147483648 + (j : Int)) = x0 := ⟨_, rfl⟩
  rw [hq, hn, hx0]
  have HX00 := Lib.hid hx0
  clear hx0
  unfold parV at hPi ⊢
  have HPI := Lib.hid hPi
  have HO := Lib.hid hO
  have hKJ : IntKind.i64.wrap ((K : Int) + (j : Int)) = (q : Int) := by rw [show (K : Int) + (j : Int) = (q : Int) by omega]; exact IntWalk.i64_in _ (by omega)
  have HM := Lib.hid (fun W W1 hb => row1 W W1 q hb)
  have HM2 := Lib.hid (fun (W W1 : World) (hb : Below (W.alloc (.cells #[.int .i64 (q : Int)] 3)).drew.heap.size (W.alloc (.cells #[.int .i64 (q : Int)] 3)).drew W1) => row1 W W1 q (((Below.refl _ _).drew).trans hb))
  have HN : Hid (K ≤ n ∧ n ≤ 80) := ⟨by omega, by omega⟩
  have HJ : Hid (j < 16) := Lib.hid (by omega)
  have HS := Lib.hid hs
  have HKB := Lib.hid hK
  clear hPi hO hq hn hs hK hP hZ hj
  go_enter Tryz.func36, Tryz.ntmps36
  go_upto_region 1 with fail
  have hz : (w.alloc (.cells #[.int .u32 (s : Int), .int .i64 (K : Int), .int .i64 (P : Int), .int .i64 (Z : Int)] 35)).heap.size = w.heap.size + 1 := by simp
  generalize (w.alloc (.cells #[.int .u32 (s : Int), .int .i64 (K : Int), .int .i64 (P : Int), .int .i64 (Z : Int)] 35)) = w0 at *
  have HZ0 := Lib.hid hz
  have hkeep := Lib.hid (spar_keep HX0.out)
  clear hz
  go_cut [5] (fun s5 wx => ∃ g h, s5 = .pointer (some ⟨g, 0, none⟩) ∧ Hid (w.heap.size ≤ g ∧ w.heap.size ≤ h ∧ VecAt wx g h n (2 ^ q)) ∧ Hid (Below w0.heap.size w0 wx))
  case first =>
    go_region_held3 (SPar w0 w.heap.size s K P Z)
      (first | exact hkeep.out _ (spar_next (by assumption) (by assumption)) | exact hkeep.out _ (spar_alloc (by assumption) _) | exact hkeep.out _ (Below.refl _ _).drew | exact hkeep.out _ (Below.refl _ _))
      (first
        | (go_at_call 33; refine (HPI.out _).mono ?_; rintro e w' ⟨rfl, hbel'⟩; have hbel := hbel'.out; have hbel2 := hbel'.out)
        | (go_at_call 43; (with_reducible refine (HO.out _ _ _ (HM.out _ _ (Below.refl _ _))).mono ?_); rintro e w' ⟨g, h, rfl, hg, hh, hv, hbel3'⟩; have hbel3 := hbel3'.out)
        | (go_at_call 43; (refine (HO.out _ _ _ (HM2.out _ _ hbel2)).mono ?_); rintro e w' ⟨g, h, rfl, hg, hh, hv, hbel3'⟩; have hbel3 := hbel3'.out))
    all_goals
      have hbq := spar_below (by assumption : SPar w0 w.heap.size s K P Z _)
      go_wp2_with fail
      go_meet
      have h0 := HZ0.out
      have h1 := hbel2.size
      have h2 : w.heap.size ≤ g ∧ w.heap.size ≤ h := by
        have e : ∀ W : World, W.drew.heap.size = W.heap.size := fun _ => rfl
        simp only [e] at h1
        have e2 : ∀ (W : World) (o : Obj), (W.alloc o).heap.size = W.heap.size + 1 := fun W o => by simp
        try simp only [e2] at h1
        try simp only [e2] at hg
        try simp only [e2] at hh
        exact ⟨by omega, by omega⟩
      exact ⟨g, h, rfl, Lib.hid ⟨h2.1, h2.2, hv.out⟩, Lib.hid hbq⟩
  case rest =>
    obtain ⟨g, h, rfl, hv, hbw⟩ := hcut
    obtain ⟨_, c0, c1, _, _⟩ := hkeep.out wc hbw.out
    have hj16 : (j : Int) < 16 := by have := HJ.out; omega
    have HJM : Hid ((j : Int) % 4294967296 = (j : Int)) := by show _ = _; omega
    obtain ⟨B, hB⟩ : ∃ B : Int, 2147483648 + (j : Int) = B := ⟨_, rfl⟩
    have HBB : Hid (B % 4294967296 = B) := by show _ = _; omega
    have HB := Lib.hid hB
    have HNW := Lib.hid (fun W => new_any (s : Int) B (by omega) (by have := HS.out; omega) (by omega) (by omega) W)
    clear hB
    go_wp2_with (first | rw [HJM.out] | rw [HB.out] | rw [HBB.out])
    refine (HNW.out _).mono ?_
    rintro e w2 ⟨rfl, hsrc, hb2, hsz⟩
    have hv3 := hv.out.2.2.below hb2
    have hlv := hv.out.2.2.lt
    have HBW := Lib.hid (hbw.out.trans (hb2.mono hbw.out.size))
    obtain ⟨_, c0, c1, _, _⟩ := hkeep.out w2 HBW.out
    have hle : w.heap.size ≤ wc.heap.size := by have := HB0.out.size; have := hbw.out.size; omega
    have HX1 : Hid (w.heap.size ≤ g ∧ w.heap.size ≤ h ∧ g ≠ wc.heap.size ∧ h ≠ wc.heap.size ∧ w.heap.size ≤ wc.heap.size) := Lib.hid ⟨hv.out.1, hv.out.2.1, by omega, by omega, hle⟩
    have HBW2 := Lib.hid (HB0.out.trans (HBW.out.mono HB0.out.size))
    obtain ⟨gs, hgs⟩ : ∃ gs, wc.heap.size = gs := ⟨_, rfl⟩
    rw [hgs] at hsrc HX1 ⊢
    have HSRC := Lib.hid hsrc
    have HV3 := Lib.hid hv3
    have hx0 : seed (s : Int) B = x0 := by rw [← HB.out]; exact HX00.out
    rw [hx0] at HSRC
    clear hsrc hb2 hsz hv3 hlv hle hgs hx0 HNW hv hbw
    go_wp2_with fail
    clear c0 c1
    go_loopw [24] (fun i wr => ∃ k : Nat, k ≤ K ∧ i = .int .i64 k ∧ Hid (VecAt wr g h n (parX x0 q k)) ∧ Hid (Src wr gs (shk x0 k)) ∧ Hid (Below w.heap.size w wr)) (fun i _ => K - (intOf i).toNat)
    case atStart => exact ⟨0, by omega, rfl, HV3, HSRC, HBW2⟩
    case round =>
      obtain ⟨k, hk, rfl, hvk, hsk, hbk⟩ := hrel
      by_cases hlt : k < K
      · have hnx := Lib.hid (next_set gs (shk x0 k) wr hsk.out)
        have hvk2 := Lib.hid (hvk.out.grown (grown_set1 wr gs 0 (.int .u32 (sh (shk x0 k)))) (Ne.symm HX1.out.2.2.1) (Ne.symm HX1.out.2.2.2.1))
        have hsk2 := Lib.hid (hsk.out.set (sh_bounds (shk x0 k)).1 (sh_bounds (shk x0 k)).2)
        have hbk2 := Lib.hid (hbk.out.setCell (p := ⟨gs, 0, none⟩) HX1.out.2.2.2.2 (.int .u32 (sh (shk x0 k))))
        obtain ⟨y, hy⟩ : ∃ y, mx (sh (shk x0 k)) = y := ⟨_, rfl⟩
        obtain ⟨hy0, hy1⟩ := mx_bounds (sh (shk x0 k))
        rw [hy] at hnx hy0 hy1
        have HY := Lib.hid hy
        clear hy hvk hsk hbk
        go_wp2_with fail
        refine hnx.out.mono ?_
        rintro e w' ⟨rfl, rfl⟩
        clear hnx
        generalize wr.setCell ⟨gs, 0, none⟩ (.int .u32 (sh (shk x0 k))) = w4 at *
        go_wp2_with fail
        refine (set_in g h n _ k (y % 2 == 1) w4 hvk2.out (by have := HN.out; omega)).mono ?_
        rintro e w5 ⟨rfl, hv5, hg5⟩
        have hs5 : Hid (Src w5 gs (shk x0 (k + 1))) := Lib.hid ⟨(hg5.out.block gs hsk2.out.lt (fun e => by injection e with e; have := HX1.out.2.2.2.1; omega)).trans hsk2.out.1, hsk2.out.2⟩
        have hb5 := Lib.hid (hbk2.out.grown hg5.out hbk2.out.size (by intro r hr; injection hr with hr; have := HX1.out.2.1; omega))
        have hv6 : Hid (VecAt w5 g h n (parX x0 q (k + 1))) := by
          show VecAt _ _ _ _ _
          unfold parX odd
          rw [show shk x0 (k + 1) = sh (shk x0 k) from rfl, HY.out]
          exact hv5.out
        clear hvk2 hsk2 hbk2 hv5 hg5 hy0 hy1
        have hk64 : (k : Int) < 64 := by have := HKB.out; omega
        go_wp2_with fail
        go_roundw
        case rel => exact ⟨k + 1, by omega, by go_num, hv6, hs5, hb5⟩
        case measure => simp [intOf]; omega
      · obtain rfl : K = k := by omega
        clear hlt
        go_wp2_with fail
        go_ret
        exact ⟨g, h, rfl, HX1.out.1, HX1.out.2.1, hvk, hbk⟩
end Go.Proofs.YtpmmolamdlcmnaaGreatDoor.Pc
namespace Go.Proofs.YtpmmolamdlcmnaaGreatDoor.Pc
open Go.RowKit
open VecM RdM Vc Sp
def parJ (s K j : Nat) : Nat := parX (seed (s : Int) (2147483648 + (j : Int))) (K + j) K
theorem infoPtr : (Tryz.prog.info? 46).map (fun i => (i.zero, i.size, i.bytes)) = some (some (.pointer none), 1, 8) := by kernel_rfl
theorem madePtr (m : Nat) (hm : m ≤ 1000000) : ∀ w : World, (Instr.makeSlice 44 (.int .i64 (m : Int)) (.int .i64 (m : Int))).run Tryz.prog w = .ok (.slice (some ⟨w.heap.size, 0, none⟩) m m) (w.alloc (.cells (Array.replicate m (.pointer none)) 46)) := by
  obtain ⟨i0, hi, hz0, hz1, hz2⟩ := info_parts infoPtr
  intro w
  have h := run_make (P := Tryz.prog) w 44 46 i0 (.pointer none) Tryz.underlying44 hi hz0 .i64 .i64 (m : Int) (m : Int) (by omega) (by omega) (by rw [hz2]; omega) (by omega)
  rw [hz1] at h
  have e : madeCells (Value.pointer none).cells m = Array.replicate m (.pointer none) := by
    apply Array.toList_inj.1
    show (madeCells #[Value.pointer none] m).toList = _
    rw [toList_madeCells_one]; simp
  simpa [e] using h
def pvk (gs : Nat → Nat) (P k : Nat) : List Value := (List.range P).map fun j => if j < k then .pointer (some ⟨gs j, 0, none⟩) else .pointer none
theorem pvk_length (gs : Nat → Nat) (P k : Nat) : (pvk gs P k).length = P := by simp [pvk]
theorem pvk_get (gs : Nat → Nat) (P k j : Nat) (h : j < P) : (pvk gs P k)[j]? = some (if j < k then .pointer (some ⟨gs j, 0, none⟩) else .pointer none) := by simp [pvk, h]
theorem pvk_zero (gs : Nat → Nat) (P : Nat) : pvk gs P 0 = List.replicate P (.pointer none) := by
  apply List.ext_getElem?
  intro j
  by_cases h : j < P
  · rw [pvk_get _ _ _ _ h]; simp [h]
  · rw [List.getElem?_eq_none (by rw [pvk_length]; omega), List.getElem?_eq_none (by simp; omega)]
theorem pvk_set (gs : Nat → Nat) (P k g : Nat) (h : k < P) : (pvk gs P k).set k (.pointer (some ⟨g, 0, none⟩)) = pvk (fun j => if j = k then g else gs j) P (k + 1) := by
  apply List.ext_getElem?
  intro j
  rw [List.getElem?_set]
  by_cases hj : j < P
  · rw [pvk_get (fun j => if j = k then g else gs j) P (k + 1) j hj]
    by_cases e : k = j
    · subst e; simp [pvk_length, h]
    · rw [if_neg e, pvk_get gs P k j hj]
      have e2 : ¬ j = k := fun h => e h.symm
      by_cases h1 : j < k
      · rw [if_pos h1, if_pos (by omega), if_neg e2]
      · rw [if_neg h1, if_neg (by omega)]
  · rw [List.getElem?_eq_none (l := pvk _ _ _) (by rw [pvk_length]; omega)]
    rw [List.getElem?_eq_none (l := pvk _ _ _) (by rw [pvk_length]; omega)]
    split
    · split
      · rename_i h3; rw [pvk_length] at h3; omega
      · rfl
    · rfl
/-- k rows of parity, all of them made since world w, behind block gA -/
def VRows (s K P k gA : Nat) (gs hs : Nat → Nat) (W : World) : Prop := ∀ j, j < k → gA < gs j ∧ gA < hs j ∧ VecAt W (gs j) (hs j) (K + P) (parJ s K j)
def RowsOk (s K P : Nat) (w : World) (e : Ending) (w' : World) : Prop :=
  ∃ gA gs hs, e = .returned (.slice (some ⟨gA, 0, none⟩) P P) ∧ Hid (w.heap.size ≤ gA ∧ VRows s K P P gA gs hs w') ∧ Hid (w'.ownsRow w.heap.size 46 1 (.slice (some ⟨gA, 0, none⟩) P P) P (pvk gs P P)) ∧ Hid (Below w.heap.size w w')
set_option maxRecDepth 100000 in
set_option maxHeartbeats 1600000 in
theorem rows_any (s K P Z : Nat) (w : World) (hs : s < 4294967296) (hK : 1 ≤ K ∧ K ≤ 64) (hP : P ≤ 16) (hZ : 1 ≤ Z ∧ Z ≤ 16) : Calls Tryz.prog 18 #[parV s K P Z] w (RowsOk s K P w) := by
  have HX0 := Lib.hid (heap_alloc_new w (.cells #[.int .u32 (s : Int), .int .i64 (K : Int), .int .i64 (P : Int), .int .i64 (Z : Int)] 35))
  have HB0 : Hid (Below w.heap.size w (w.alloc (.cells #[.int .u32 (s : Int), .int .i64 (K : Int), .int .i64 (P : Int), .int .i64 (Z : Int)] 35))) := (Below.refl _ _).alloc (Nat.le_refl _) _
  have hz : (w.alloc (.cells #[.int .u32 (s : Int), .int .i64 (K : Int), .int .i64 (P : Int), .int .i64 (Z : Int)] 35)).heap.size = w.heap.size + 1 := by simp
  have HZ0 := Lib.hid hz
  have hM := fun W => may_any s (K : Int) (P : Int) (Z : Int) W
  rw [show mayB (K : Int) (P : Int) (Z : Int) = true from (mayB_iff _ _ _).2 (by omega)] at hM
  have hPA := fun W (j : Nat) (hj : j < P) => parity_any s K P Z j W hs hK hP hZ hj
  unfold parV at hM hPA ⊢
  have HM := Lib.hid hM
  have HPA := Lib.hid hPA
  have hmk := madePtr P (by omega)
  have HPB := Lib.hid hP
  have hp16 : (P : Int) ≤ 16 := by omega
  clear hM hPA hs hK hP hZ hz
  go_enter Tryz.func18, Tryz.ntmps18
  go_wp2_with fail
  refine (HM.out _).mono ?_
  rintro e w1 ⟨rfl, hb1⟩
  have hs1 : w.heap.size + 1 ≤ w1.heap.size := by have := hb1.out.size; have := HZ0.out; omega
  have HX1 := Lib.hid ((hb1.out.block w.heap.size (by have := HZ0.out; omega)).trans HX0.out)
  have HB1 := Lib.hid (HB0.out.trans (hb1.out.mono HB0.out.size))
  have HS1 := Lib.hid hs1
  obtain ⟨c0, c1, c2, c3⟩ := box4 HX1.out
  clear hb1 hs1 HX0 HB0 HZ0 HM
  go_wp2_with fail
  clear c0 c1 c2 c3 hmk
  have HOW : Hid ((w1.alloc (.cells (Array.replicate P (.pointer none)) 46)).ownsRow w1.heap.size 46 1 (.slice (some ⟨w1.heap.size, 0, none⟩) P P) P (pvk (fun _ => 0) P 0)) := by
    show World.ownsRow _ _ _ _ _ _ _
    rw [pvk_zero]
    have := own_lit (w := w1) (base := w1.heap.size) (g := w1.heap.size) (n := P) (e := 46) (Array.replicate P (.pointer none)) rfl (Nat.le_refl _) (by simp) (by have := HPB.out; unfold maxLen; omega)
    simpa using this
  have HAL : Hid (Below w1.heap.size w1 (w1.alloc (.cells (Array.replicate P (.pointer none)) 46))) := (Below.refl _ _).alloc (Nat.le_refl _) _
  generalize (w1.alloc (.cells (Array.replicate P (.pointer none)) 46)) = w2 at *
  obtain ⟨gA, hgA⟩ : ∃ gA, w1.heap.size = gA := ⟨_, rfl⟩
  rw [hgA] at HOW ⊢
  have HGA := Lib.hid hgA
  clear hgA
  go_loopw [13] (fun i wr => ∃ (k : Nat) (gs hs : Nat → Nat), k ≤ P ∧ i = .int .i64 k ∧ Hid (VRows s K P k gA gs hs wr) ∧ Hid (wr.ownsRow gA 46 1 (.slice (some ⟨gA, 0, none⟩) P P) P (pvk gs P k)) ∧ Hid (Below w1.heap.size w1 wr)) (fun i _ => P - (intOf i).toNat)
  case atStart => exact ⟨0, fun _ => 0, fun _ => 0, by omega, rfl, Lib.hid (fun j hj => by omega), HOW, HAL⟩
  case round =>
    obtain ⟨k, gs, hs, hk, rfl, hvr, hown, hbk⟩ := hrel
    by_cases hlt : k < P
    · obtain ⟨c0, c1, c2, c3⟩ := box4 ((hbk.out.block w.heap.size (by have := HS1.out; omega)).trans HX1.out)
      have hcp := Lib.hid (HPA.out wr k hlt)
      clear HOW HAL
      go_wp2_with fail
      refine hcp.out.mono ?_
      rintro e w4 ⟨g, h, rfl, hg, hh, hv, hb4⟩
      have hlo := (hown.out.lt gA rfl).2
      have ho4 := own_below hown.out hb4.out
      have hfz := ho4.frozenAt k
      have hcs := (ho4.cellAt k (by omega)).trans (pvk_get gs P k k hlt)
      have hst := Lib.hid ((ho4.stored k (.pointer (some ⟨g, 0, none⟩))).1)
      rw [pvk_set gs P k g hlt] at hst
      have hvr2 : Hid (VRows s K P (k + 1) gA (fun j => if j = k then g else gs j) (fun j => if j = k then h else hs j) (w4.setCell ⟨gA, k, none⟩ (.pointer (some ⟨g, 0, none⟩)))) := Lib.hid (fun j hj => by
        by_cases e : j = k
        · subst e
          simp only [if_pos]
          exact ⟨by omega, by omega, hv.out.grown (grown_set1 w4 gA j _) (by omega) (by omega)⟩
        · simp only [if_neg e]
          obtain ⟨a, b, c⟩ := hvr.out j (by omega)
          exact ⟨a, b, (c.below hb4.out).grown (grown_set1 w4 gA k _) (by omega) (by omega)⟩)
      have hbk2 := Lib.hid ((hbk.out.trans (hb4.out.mono hbk.out.size)).setCell (p := ⟨gA, k, none⟩) (by have := HGA.out; show _ ≤ gA; omega) (.pointer (some ⟨g, 0, none⟩)))
      clear hcp hvr hown hbk ho4 hlo hg hh hv hb4
      go_wp2_with fail
      go_roundw
      case rel => exact ⟨k + 1, _, _, by omega, by go_num, hvr2, hst, hbk2⟩
      case measure => simp [intOf]; omega
    · obtain rfl : P = k := by omega
      clear hlt HOW HAL
      have hba := Lib.hid (HB1.out.trans (hbk.out.mono HB1.out.size))
      have hob := Lib.hid (own_base hown.out (base' := w.heap.size) (by have := HS1.out; have := HGA.out; omega))
      have hge : Hid (w.heap.size ≤ gA) := Lib.hid (by have := HS1.out; have := HGA.out; omega)
      go_wp2_with fail
      go_ret
      exact ⟨gA, gs, hs, rfl, Lib.hid ⟨hge.out, hvr.out⟩, hob, hba⟩
end Go.Proofs.YtpmmolamdlcmnaaGreatDoor.Pc
