/- digest's laws: what their helpers do; DigestOnce. -/
import Derived.Deep.DeepCutAuto
import Derived.Laws.CopyOwn
import Derived.Laws.Append
import Derived.Test.YtidcnoejihjgjaaGreatDoorShaSumQF
import Derived.Test.YtidcnoejihjgjaaGreatDoorZZCQF
import Derived.Test.YtidcnoejihjgjaaGreatDoorZAQF
namespace Go.Proofs.YtidcnoejihjgjaaGreatDoor.Sh
open Go.RowKit Go.ChangeShapes Go.WideShapes Go.ChangeAt
theorem rows2_two (w : World) (r1 r2 : BRow) (t : TypeId) (h1 : Row w w.heap.size r1.A r1.n (bv r1.l)) (h2 : Row w w.heap.size r2.A r2.n (bv r2.l)) :
    Rows2 (w.alloc (.cells #[r1.val, r2.val] t)) (w.heap.size + 1) (some ⟨w.heap.size, 0, none⟩) 2 [r1, r2] := by
  refine ⟨row_new w #[r1.val, r2.val] t (0, 0), fun r hr => ?_⟩
  simp at hr
  rcases hr with rfl | rfl
  · exact (h1.alloc (Nat.le_refl _) _).more (by omega)
  · exact (h2.alloc (Nat.le_refl _) _).more (by omega)
end Go.Proofs.YtidcnoejihjgjaaGreatDoor.Sh
namespace Go.Proofs.YtidcnoejihjgjaaGreatDoor.Sh
open Go.RowKit
theorem Tryz.info22 : (Tryz.prog.info? 22).map (fun i => (i.zero, i.size, i.bytes)) = some (some (.slice none 0 0), 1, 24) := by kernel_rfl
theorem made_list (v : Value) (n : Nat) : madeCells #[v] n = Array.replicate n v := by
  apply Array.toList_inj.1
  rw [toList_madeCells_one]; simp
theorem mk_bytes (c : Nat) (hc : c ≤ 1000000000) (w : World) : (Instr.makeSlice 22 (.int .i64 (c : Int)) (.int .i64 (c : Int))).run Tryz.prog w = .ok (.slice (some ⟨w.heap.size, 0, none⟩) c c) (w.alloc (.cells (Array.replicate c (.int .u8 0)) 5)) := by
  obtain ⟨i0, hi, hz0, hz1, hz2⟩ := info_parts Tryz.info5
  have := run_make (P := Tryz.prog) w 22 5 i0 (.int .u8 0) Tryz.underlying22 hi hz0 .i64 .i64 c c (by omega) (Int.le_refl _) (by rw [hz2]; omega) (by omega)
  simpa [hz1, Value.cells, made_list] using this
def LongB (g n k : Nat) (x : UInt8) (wr : World) : Prop := ∃ cs : Array Value, wr.heap[g]? = some (.cells cs 5 (0, 0)) ∧ cs.size = n ∧ ∀ j, j < k → cs[j]? = some (.int .u8 (x.toNat : Int))
theorem LongB.row {g n k j m : Nat} {x : UInt8} {wr : World} (h : LongB g n k x wr) (hj : j + m ≤ k) : Row wr wr.heap.size (some ⟨g, j, none⟩) m (bv (List.replicate m x)) := by
  obtain ⟨cs, hg, hs, hc⟩ := h
  refine ⟨by rw [bv_length, List.length_replicate], fun hm => ⟨g, j, rfl, (Array.getElem?_eq_some_iff.1 hg).1, fun i u hu => ?_⟩⟩
  have hi : i < m := by have := (List.getElem?_eq_some_iff.1 hu).1; rw [bv_length, List.length_replicate] at this; exact this
  rw [cell_of_row wr g (j + i) cs _ (0, 0) hg, hc (j + i) (by omega), ← hu, bv_get _ i (by rw [List.length_replicate]; exact hi), List.getElem_replicate]
end Go.Proofs.YtidcnoejihjgjaaGreatDoor.Sh
namespace Go.Proofs.YtidcnoejihjgjaaGreatDoor.Sh
open Go.RowKit
theorem rep_list (n : Nat) (v : Value) : Array.replicate n v = (List.replicate n v).toArray := by simp
def keyOf (l : List UInt8) : List UInt8 := if 64 < l.length then Sha.D l else l
def padB (k : List UInt8) (x : UInt8) : List UInt8 := (List.range 64).map fun i => k.getD i 0 ^^^ x
def tagOf (key b : List UInt8) : List UInt8 := Sha.D (padB (keyOf key) 0x5c ++ Sha.D (padB (keyOf key) 0x36 ++ b))
theorem padB_length (k : List UInt8) (x : UInt8) : (padB k x).length = 64 := by simp [padB]
theorem xor_int (a b : UInt8) : bits .xor .u8 (a.toNat : Int) (b.toNat : Int) = ((a ^^^ b).toNat : Int) := by
  rw [u8_xor_nat _ _ (CrcM.b_lt _) (CrcM.b_lt _), ← UInt8.toNat_xor]
def BAt (W : World) (g n : Nat) (f : Nat → UInt8) : Prop := ∃ cs : Array Value, W.heap[g]? = some (.cells cs 5 (0, 0)) ∧ cs.size = n ∧ ∀ i, i < n → cs[i]? = some (.int .u8 ((f i).toNat : Int))
section
variable {W W' : World} {g n : Nat} {f f' : Nat → UInt8}
theorem BAt.lt (h : BAt W g n f) : g < W.heap.size := by
  obtain ⟨cs, hg, _⟩ := h
  exact (Array.getElem?_eq_some_iff.1 hg).1
theorem BAt.at_ (h : BAt W g n f) {i : Nat} (hi : i < n) : W.cell? ⟨g, i, none⟩ = some (.int .u8 ((f i).toNat : Int)) := by
  obtain ⟨cs, hg, _, hc⟩ := h
  rw [cell_of_row W g i cs _ (0, 0) hg]
  exact hc i hi
theorem BAt.frozen (h : BAt W g n f) (i : Nat) : W.frozen? ⟨g, i, none⟩ = false := by
  obtain ⟨cs, hg, _, _⟩ := h
  exact frozen_of_row W g i cs _ hg
theorem BAt.store (h : BAt W g n f) {k : Nat} {x : UInt8} (hk : k < n) (hf : ∀ i, i < n → f' i = if i = k then x else f i) : BAt (W.setCell ⟨g, k, none⟩ (.int .u8 (x.toNat : Int))) g n f' := by
  obtain ⟨cs, hg, hs, hc⟩ := h
  refine ⟨cs.setIfInBounds k (.int .u8 (x.toNat : Int)), heap_setCell_same W g k cs _ _ hg, by simpa using hs, fun i hi => ?_⟩
  rw [hf i hi, Array.getElem?_setIfInBounds]
  by_cases e : k = i
  · subst e; rw [if_pos rfl, if_pos (by omega), if_pos rfl]
  · rw [if_neg e, if_neg (fun e' => e e'.symm)]; exact hc i hi
theorem BAt.own {base : Nat} (h : BAt W g n f) (hb : base ≤ g) (hn : n ≤ maxLen) : W.ownsRow base 5 1 (.slice (some ⟨g, 0, none⟩) n n) n (bv ((List.range n).map f)) := by
  obtain ⟨cs, hg, hs, hc⟩ := h
  refine ⟨by simp [bv], .inr ⟨g, n, cs, rfl, hb, hg, Nat.le_refl _, hn, by simpa using hs, ?_⟩⟩
  apply List.ext_getElem?
  intro i
  by_cases hi : i < n
  · rw [Nat.mul_one, List.getElem?_take_of_lt hi, Array.getElem?_toList, hc i hi]
    simp [bv, hi]
  · rw [Nat.mul_one, List.getElem?_take_eq_none (by omega), List.getElem?_eq_none (by simp [bv]; omega)]
theorem BAt.keep (h : BAt W g n f) (hb : W'.heap[g]? = W.heap[g]?) : BAt W' g n f := by
  obtain ⟨cs, hg, r⟩ := h
  exact ⟨cs, hb.trans hg, r⟩
theorem BAt.fun_ (h : BAt W g n f) (he : ∀ i, i < n → f' i = f i) : BAt W g n f' := by
  obtain ⟨cs, hg, hs, hc⟩ := h
  exact ⟨cs, hg, hs, fun i hi => by rw [hc i hi, he i hi]⟩
end
theorem splice_at {W : World} {g : Nat} {Z : List Value} {l : List UInt8} (hZ : List.replicate 64 (Value.int .u8 0) = Z) (hl : l.length ≤ 64) (h : W.heap[g]? = some (.cells (splice Z 0 (bv l)).toArray 5 (0, 0))) : BAt W g 64 (fun i => l.getD i 0) := by
  refine ⟨_, h, ?_, fun i hi => ?_⟩
  · rw [List.size_toArray, length_splice Z 0 (bv l) (by rw [← hZ, bv_length, List.length_replicate]; omega), ← hZ, List.length_replicate]
  · rw [List.getElem?_toArray]
    simp only [splice, List.take_zero, List.nil_append, Nat.zero_add]
    by_cases hi2 : i < l.length
    · rw [List.getElem?_append_left (by rw [bv_length]; exact hi2), bv_get l i hi2, List.getD_eq_getElem?_getD, List.getElem?_eq_getElem hi2]; rfl
    · rw [List.getElem?_append_right (by rw [bv_length]; omega), bv_length, List.getElem?_drop, ← hZ, List.getElem?_replicate, if_pos (by omega), List.getD_eq_getElem?_getD, List.getElem?_eq_none (by omega)]; rfl
def xorTo (l : List UInt8) (x : UInt8) (k i : Nat) : UInt8 := if i < k then l.getD i 0 ^^^ x else l.getD i 0
def PadOk (l : List UInt8) (w : World) (e : Ending) (w' : World) : Prop :=
  ∃ A c, e = .returned (.slice A 64 c) ∧ Hid (w'.ownsRow w.heap.size 5 1 (.slice A 64 c) 64 (bv l)) ∧ Hid (Below w.heap.size w w')
set_option maxRecDepth 100000 in
set_option maxHeartbeats 1600000 in
theorem pad_small (B n' c' : Nat) (A' : Option Addr) (l' : List UInt8) (x : UInt8) (w : World) (hl : Row w B A' n' (bv l')) (hB : B ≤ w.heap.size) (hn : n' ≤ 64) :
    Calls Tryz.prog 95 #[.slice A' n' c', .int .u8 (x.toNat : Int)] w (PadOk (padB l' x) w) := by
  have HROW := Lib.hid hl
  have HL' := Lib.hid hl.blen
  have HB' := Lib.hid hB
  have HBW := Lib.hid (Below.refl w.heap.size w)
  obtain ⟨Z, hZ⟩ : ∃ Z : List Value, List.replicate 64 (.int .u8 0) = Z := ⟨_, rfl⟩
  have hm : ∀ W, (Instr.makeSlice 22 (.int .i64 64) (.int .i64 64)).run Tryz.prog W = .ok (.slice (some ⟨W.heap.size, 0, none⟩) 64 64) (W.alloc (.cells Z.toArray 5)) := by
    intro W
    rw [← hZ]
    have := mk_bytes 64 (by omega) W
    rw [rep_list] at this
    exact this
  have HZ := Lib.hid hZ
  clear hZ
  clear hl hB
  have hn' : ¬ (64 : Int) < (n' : Int) := by omega
  have hm0 := hm w
  go_enter Tryz.func95, Tryz.ntmps95
  have hw64 : w.heap.size ≤ w.heap.size := HBW.out.size
  have hA0 : Hid (Below w.heap.size w (w.alloc (.cells Z.toArray 5))) := HBW.out.alloc hw64 _
  have B1 := Lib.hid (heap_alloc_new w (.cells Z.toArray 5))
  have hsrc : Hid (0 < (bv l').length → ∃ ad, A' = some ad ∧ ∀ j v, (bv l')[j]? = some v → (w.alloc (.cells Z.toArray 5)).cell? (ad.add j) = some v) := by
    intro hp
    rw [bv_length, HL'.out] at hp
    obtain ⟨b, o, e, _, hc⟩ := (HROW.out.alloc HB'.out (.cells Z.toArray 5)).2 hp
    exact ⟨_, e, fun j v hv => by rw [plain_add]; exact hc j v hv⟩
  have hmk := hm0
  clear hm0
  go_wp2_with ((with_reducible show wpList _ _ _ _ _ _); refine wpList_copy_splice (o := ⟨some 15, _, _, _, _, _⟩) rfl (.tmp 13) (.tmp 14) 22 22 rfl 5 Tryz.underlying22 (by kernel_rfl) (some ⟨w.heap.size, 0, none⟩) A' 64 64 n' c' rfl rfl w.heap.size 0 Z 5 B1.out (bv l') (by rw [bv_length, HL'.out]; exact (Nat.min_eq_left (by omega)).symm) (fun hp => ⟨rfl, hsrc.out hp⟩) (by rw [bv_length, HL'.out, ← HZ.out, List.length_replicate]; omega) (bv_one _) w.heap.size w hA0.out hw64 ?_; intro w2 hcp hb2; clear hmk)
  have hC0 : Hid (BAt w2 w.heap.size 64 (xorTo l' x 0) ∧ Below w.heap.size w w2) := ⟨(splice_at HZ.out (by rw [HL'.out]; omega) hcp.out).fun_ (fun i _ => by unfold xorTo; rw [if_neg (by omega)]), hb2⟩
  clear hcp hb2 hsrc B1 hA0
  go_wp2_with fail
  go_loopw [18] (fun i wr => ∃ k : Nat, k ≤ 64 ∧ i = .int .i64 k ∧ Hid (BAt wr w.heap.size 64 (xorTo l' x k) ∧ Below w.heap.size w wr)) (fun i _ => 64 - (intOf i).toNat)
  case atStart => exact ⟨0, by omega, rfl, hC0⟩
  case round =>
    obtain ⟨k, hk, rfl, hd⟩ := hrel
    clear hC0
    by_cases hlt : k < 64
    · have hcell := hd.out.1.at_ hlt
      have hfr := hd.out.1.frozen k
      have e0 : xorTo l' x k k = l'.getD k 0 := by unfold xorTo; rw [if_neg (by omega)]
      rw [e0] at hcell
      have HX := Lib.hid (xor_int (l'.getD k 0) x)
      have hD : Hid (BAt (wr.setCell ⟨w.heap.size, k, none⟩ (.int .u8 ((l'.getD k 0 ^^^ x).toNat : Int))) w.heap.size 64 (xorTo l' x (k + 1)) ∧ Below w.heap.size w (wr.setCell ⟨w.heap.size, k, none⟩ (.int .u8 ((l'.getD k 0 ^^^ x).toNat : Int)))) := by
        refine ⟨hd.out.1.store hlt fun i hi => ?_, hd.out.2.setCell hw64 _⟩
        unfold xorTo
        by_cases e : i = k
        · subst e; rw [if_pos rfl, if_pos (by omega)]
        · rw [if_neg e]
          by_cases h9 : i < k
          · rw [if_pos (by omega), if_pos h9]
          · rw [if_neg (by omega), if_neg h9]
      have k64 : (k : Int) < 64 := by omega
      clear hd e0
      generalize l'.getD k 0 = y at *
      go_wp2_with fail
      go_roundw
      case rel => exact ⟨k + 1, by omega, by go_num, by rw [HX.out]; exact hD⟩
      case measure => simp [intOf]; omega
    · obtain rfl : 64 = k := by omega
      go_wp2_with fail
      go_ret
      refine ⟨some ⟨w.heap.size, 0, none⟩, 64, rfl, ?_, hd.out.2⟩
      have := hd.out.1.own hw64 (by unfold maxLen; omega)
      rw [show (List.range 64).map (xorTo l' x 64) = padB l' x by unfold padB; apply List.map_congr_left; intro i hi; unfold xorTo; rw [if_pos (List.mem_range.1 hi)]] at this
      exact this
set_option maxRecDepth 100000 in
set_option maxHeartbeats 1600000 in
theorem pad_big (B n c : Nat) (A : Option Addr) (l : List UInt8) (x : UInt8) (w : World) (ht : Tab w) (hl : Row w B A n (bv l)) (hB : B ≤ w.heap.size) (hn : 64 < n) (hn2 : n ≤ 100000000000000000) :
    Calls Tryz.prog 95 #[.slice A n c, .int .u8 (x.toNat : Int)] w (PadOk (padB (Sha.D l) x) w) := by
  have HR0 := Lib.hid hl
  have HT := Lib.hid ht
  have HB0 := Lib.hid hB
  obtain ⟨Z, hZ⟩ : ∃ Z : List Value, List.replicate 64 (.int .u8 0) = Z := ⟨_, rfl⟩
  have hm : ∀ W, (Instr.makeSlice 22 (.int .i64 64) (.int .i64 64)).run Tryz.prog W = .ok (.slice (some ⟨W.heap.size, 0, none⟩) 64 64) (W.alloc (.cells Z.toArray 5)) := by
    intro W
    rw [← hZ]
    have := mk_bytes 64 (by omega) W
    rw [rep_list] at this
    exact this
  have HZ := Lib.hid hZ
  clear hZ
  clear hl hB ht
  have hn' : (64 : Int) < (n : Int) := by omega
  go_enter Tryz.func95, Tryz.ntmps95
  go_wp2_with fail
  refine (sum_any B n c A l w HT.out HR0.out HB0.out hn2).mono ?_
  rintro e w1 ⟨A', c', rfl, O1, HBW⟩
  have HROW := Lib.hid (Row.of_own O1.out)
  have HB' := Lib.hid (Nat.le_refl w1.heap.size)
  have HL' := Lib.hid (Sha.D_length l)
  clear O1
  generalize Sha.D l = l' at *
  have hw64 : w.heap.size ≤ w1.heap.size := HBW.out.size
  have hA0 : Hid (Below w.heap.size w (w1.alloc (.cells Z.toArray 5))) := HBW.out.alloc hw64 _
  have B1 := Lib.hid (heap_alloc_new w1 (.cells Z.toArray 5))
  have hsrc : Hid (0 < (bv l').length → ∃ ad, A' = some ad ∧ ∀ j v, (bv l')[j]? = some v → (w1.alloc (.cells Z.toArray 5)).cell? (ad.add j) = some v) := by
    intro hp
    rw [bv_length, HL'.out] at hp
    obtain ⟨b, o, e, _, hc⟩ := (HROW.out.alloc HB'.out (.cells Z.toArray 5)).2 hp
    exact ⟨_, e, fun j v hv => by rw [plain_add]; exact hc j v hv⟩
  have hmk := hm w1
  go_wp2_with ((with_reducible show wpList _ _ _ _ _ _); refine wpList_copy_splice (o := ⟨some 15, _, _, _, _, _⟩) rfl (.tmp 13) (.tmp 14) 22 22 rfl 5 Tryz.underlying22 (by kernel_rfl) (some ⟨w1.heap.size, 0, none⟩) A' 64 64 32 c' rfl rfl w1.heap.size 0 Z 5 B1.out (bv l') (by rw [bv_length, HL'.out]; exact (Nat.min_eq_left (by omega)).symm) (fun hp => ⟨rfl, hsrc.out hp⟩) (by rw [bv_length, HL'.out, ← HZ.out, List.length_replicate]; omega) (bv_one _) w.heap.size w hA0.out hw64 ?_; intro w2 hcp hb2; clear hmk)
  have hC0 : Hid (BAt w2 w1.heap.size 64 (xorTo l' x 0) ∧ Below w.heap.size w w2) := ⟨(splice_at HZ.out (by rw [HL'.out]; omega) hcp.out).fun_ (fun i _ => by unfold xorTo; rw [if_neg (by omega)]), hb2⟩
  clear hcp hb2 hsrc B1 hA0
  go_wp2_with fail
  go_loopw [18] (fun i wr => ∃ k : Nat, k ≤ 64 ∧ i = .int .i64 k ∧ Hid (BAt wr w1.heap.size 64 (xorTo l' x k) ∧ Below w.heap.size w wr)) (fun i _ => 64 - (intOf i).toNat)
  case atStart => exact ⟨0, by omega, rfl, hC0⟩
  case round =>
    obtain ⟨k, hk, rfl, hd⟩ := hrel
    clear hC0
    by_cases hlt : k < 64
    · have hcell := hd.out.1.at_ hlt
      have hfr := hd.out.1.frozen k
      have e0 : xorTo l' x k k = l'.getD k 0 := by unfold xorTo; rw [if_neg (by omega)]
      rw [e0] at hcell
      have HX := Lib.hid (xor_int (l'.getD k 0) x)
      have hD : Hid (BAt (wr.setCell ⟨w1.heap.size, k, none⟩ (.int .u8 ((l'.getD k 0 ^^^ x).toNat : Int))) w1.heap.size 64 (xorTo l' x (k + 1)) ∧ Below w.heap.size w (wr.setCell ⟨w1.heap.size, k, none⟩ (.int .u8 ((l'.getD k 0 ^^^ x).toNat : Int)))) := by
        refine ⟨hd.out.1.store hlt fun i hi => ?_, hd.out.2.setCell hw64 _⟩
        unfold xorTo
        by_cases e : i = k
        · subst e; rw [if_pos rfl, if_pos (by omega)]
        · rw [if_neg e]
          by_cases h9 : i < k
          · rw [if_pos (by omega), if_pos h9]
          · rw [if_neg (by omega), if_neg h9]
      have k64 : (k : Int) < 64 := by omega
      clear hd e0
      generalize l'.getD k 0 = y at *
      go_wp2_with fail
      go_roundw
      case rel => exact ⟨k + 1, by omega, by go_num, by rw [HX.out]; exact hD⟩
      case measure => simp [intOf]; omega
    · obtain rfl : 64 = k := by omega
      go_wp2_with fail
      go_ret
      refine ⟨some ⟨w1.heap.size, 0, none⟩, 64, rfl, ?_, hd.out.2⟩
      have := hd.out.1.own hw64 (by unfold maxLen; omega)
      rw [show (List.range 64).map (xorTo l' x 64) = padB l' x by unfold padB; apply List.map_congr_left; intro i hi; unfold xorTo; rw [if_pos (List.mem_range.1 hi)]] at this
      exact this
end Go.Proofs.YtidcnoejihjgjaaGreatDoor.Sh
namespace Go.Proofs.YtidcnoejihjgjaaGreatDoor.Sh
open Go.RowKit
theorem pad_any (B n c : Nat) (A : Option Addr) (l : List UInt8) (x : UInt8) (i : Int) (hi : (x.toNat : Int) = i) (w : World) (ht : Tab w) (hl : Row w B A n (bv l)) (hB : B ≤ w.heap.size) (hn2 : n ≤ 100000000000000000) :
    Calls Tryz.prog 95 #[.slice A n c, .int .u8 i] w (PadOk (padB (keyOf l) x) w) := by
  subst hi
  have hl1 := hl.blen
  by_cases h : 64 < n
  · unfold keyOf; rw [if_pos (by omega)]
    exact pad_big B n c A l x w ht hl hB h hn2
  · unfold keyOf; rw [if_neg (by omega)]
    exact pad_small B n c A l x w hl hB (by omega)
theorem tagOf_eq (key b : List UInt8) : tagOf key b = Sha.D (padB (keyOf key) 0x5c ++ Sha.D (padB (keyOf key) 0x36 ++ b)) := by rw [tagOf]
theorem tagOf_length (k b : List UInt8) : (tagOf k b).length = 32 := Sha.D_length _
def TagOk (l : List UInt8) (w : World) (e : Ending) (w' : World) : Prop :=
  ∃ A c, e = .returned (.slice A 32 c) ∧ Hid (w'.ownsRow w.heap.size 5 1 (.slice A 32 c) 32 (bv l)) ∧ Hid (Below w.heap.size w w')
set_option maxRecDepth 100000 in
set_option maxHeartbeats 800000 in
theorem tag_any (B1 n1 c1 : Nat) (A1 : Option Addr) (key : List UInt8) (B2 n2 c2 : Nat) (A2 : Option Addr) (b : List UInt8) (w : World) (ht : Tab w) (h1 : Row w B1 A1 n1 (bv key)) (hB1 : B1 ≤ w.heap.size) (h2 : Row w B2 A2 n2 (bv b)) (hB2 : B2 ≤ w.heap.size) (hn1 : n1 ≤ 10000000000000000) (hn2 : n2 ≤ 10000000000000000) :
    Calls Tryz.prog 73 #[.slice A1 n1 c1, .slice A2 n2 c2] w (TagOk (tagOf key b) w) := by
  have HT := Lib.hid ht
  have H1 := Lib.hid h1
  have H2 := Lib.hid h2
  have HL2 := Lib.hid h2.blen
  have HB1 := Lib.hid hB1
  have HB2 := Lib.hid hB2
  clear ht h1 h2 hB1 hB2
  go_enter Tryz.func73, Tryz.ntmps73
  go_wp2_with fail
  refine (pad_any B1 n1 c1 A1 key 0x36 _ rfl _ HT.out H1.out HB1.out (by omega)).mono ?_
  rintro e w1 ⟨A3, c3, rfl, O3, hb1⟩
  have R1 : Hid (Rows2 (w1.alloc (.cells #[.slice A3 64 c3, .slice A2 n2 c2] 22)) (w1.heap.size + 1) (some ⟨w1.heap.size, 0, none⟩) 2 [⟨A3, 64, c3, padB (keyOf key) 0x36⟩, ⟨A2, n2, c2, b⟩]) :=
    rows2_two w1 ⟨A3, 64, c3, padB (keyOf key) 0x36⟩ ⟨A2, n2, c2, b⟩ _ (Row.of_own O3.out) ((H2.out.below (hb1.out.mono HB2.out)).more (Nat.le_trans HB2.out hb1.out.size))
  have hb1' : Hid (Below w.heap.size w (w1.alloc (.cells #[.slice A3 64 c3, .slice A2 n2 c2] 22))) := hb1.out.alloc hb1.out.size _
  have hflat : Hid (flat [⟨A3, 64, c3, padB (keyOf key) 0x36⟩, ⟨A2, n2, c2, b⟩] = padB (keyOf key) 0x36 ++ b) := by show _ = _; simp [flat]
  go_wp2_with fail
  refine (rows_any (w1.heap.size + 1) 2 2 _ _ _ (HT.out.below hb1'.out HT.out.1) R1.out (by simp) (by rw [hflat.out, List.length_append, padB_length, HL2.out]; omega) (by omega)).mono ?_
  rintro e w2 ⟨A4, c4, rfl, O4, hb2⟩
  have hB2' := Lib.hid (hb1'.out.trans (hb2.out.mono hb1'.out.size))
  rw [hflat.out] at O4
  clear R1 hb1' hflat O3 hb1 hb2
  go_wp2_with fail
  refine (pad_any B1 n1 c1 A1 key 0x5c _ rfl _ (HT.out.below hB2'.out HT.out.1) (H1.out.below (hB2'.out.mono HB1.out)) (Nat.le_trans HB1.out hB2'.out.size) (by omega)).mono ?_
  rintro e w3 ⟨A5, c5, rfl, O5, hb3⟩
  have hB3 := Lib.hid (hB2'.out.trans (hb3.out.mono hB2'.out.size))
  have O4' := Lib.hid (own_below O4.out hb3.out)
  have R2 : Hid (Rows2 (w3.alloc (.cells #[.slice A5 64 c5, .slice A4 32 c4] 22)) (w3.heap.size + 1) (some ⟨w3.heap.size, 0, none⟩) 2 [⟨A5, 64, c5, padB (keyOf key) 0x5c⟩, ⟨A4, 32, c4, Sha.D (padB (keyOf key) 0x36 ++ b)⟩]) :=
    rows2_two w3 ⟨A5, 64, c5, padB (keyOf key) 0x5c⟩ ⟨A4, 32, c4, Sha.D (padB (keyOf key) 0x36 ++ b)⟩ _ (Row.of_own O5.out) (Row.of_own O4'.out)
  have hB3' : Hid (Below w.heap.size w (w3.alloc (.cells #[.slice A5 64 c5, .slice A4 32 c4] 22))) := hB3.out.alloc hB3.out.size _
  have hflat : Hid (flat [⟨A5, 64, c5, padB (keyOf key) 0x5c⟩, ⟨A4, 32, c4, Sha.D (padB (keyOf key) 0x36 ++ b)⟩] = padB (keyOf key) 0x5c ++ Sha.D (padB (keyOf key) 0x36 ++ b)) := by show _ = _; simp [flat]
  clear O4 O4' O5 hb3
  go_wp2_with fail
  refine (rows_any (w3.heap.size + 1) 2 2 _ _ _ (HT.out.below hB3'.out HT.out.1) R2.out (by simp) (by rw [hflat.out, List.length_append, padB_length, Sha.D_length]; omega) (by omega)).mono ?_
  rintro e w4 ⟨A6, c6, rfl, O6, hb4⟩
  have hB4 := Lib.hid (hB3'.out.trans (hb4.out.mono hB3'.out.size))
  rw [hflat.out] at O6
  have hfin := Lib.hid (own_base O6.out hB3'.out.size)
  go_wp2_with fail
  go_ret
  rw [← tagOf_eq] at hfin
  exact ⟨A6, c6, rfl, hfin, hB4⟩
end Go.Proofs.YtidcnoejihjgjaaGreatDoor.Sh
namespace Go.Proofs.YtidcnoejihjgjaaGreatDoor
open Go.RowKit
theorem zeroCells_u8 (m : Nat) : Builtin.zeroCells #[Value.int .u8 0] m = (List.replicate m (Value.int .u8 0)).toArray := by
  apply Array.toList_inj.1
  simp [Builtin.zeroCells, Nat.mod_one, List.map_const']
theorem app_zero_run {P : Program} (w : World) (base : Nat) (t ti ty e : TypeId) (i : TypeInfo) (ht : P.underlying t = some (.slice e)) (hti : P.underlying ti = some (.int .i64)) (hi : P.info? e = some i) (hz : i.zero = some (.int .u8 0))
    (hsize : i.size = 1) (hby : i.bytes = 1)
    (v : Value) (n : Nat) (xs : List Value) (hown : w.ownsRow base e 1 v n xs) (m : Nat) (hn : n ≤ 1000000000) (hm : m ≤ 1000000000) (hbase : base ≤ w.heap.size) :
    ∃ v' w', (Builtin.append_ #[t, ti] ty #[v, .int .i64 (m : Int)]).run P w = .ok v' w' ∧ w'.ownsRow base e 1 v' (n + m) (xs ++ List.replicate m (.int .u8 0)) ∧ w.grownBy w' v.ownBlock := by
  have hwrap : IntKind.i64.wrap (m : Int) = (m : Int) := IntWalk.i64_in _ ⟨by omega, by omega⟩
  have h0 : ¬ ((m : Int) < 0) := by omega
  have h48 : ¬ (281474976710656 < (m : Int)) := by omega
  have hcells : (Value.int IntKind.u8 0).cells = #[Value.int .u8 0] := rfl
  have hlen : (xs ++ List.replicate m (Value.int .u8 0)).length = (n + m) * 1 := by rw [List.length_append, hown.1, List.length_replicate]; omega
  have grown : ∀ (old : Nat), ∀ (row : Option Nat),
      (w.drew.alloc (.cells (xs.toArray ++ Builtin.zeroCells #[Value.int .u8 0] m ++ Builtin.zeroCells #[Value.int .u8 0] (grownCap w (n + m) old e - (n + m))) e)).ownsRow base e 1
        (.slice (some ⟨w.heap.size, 0, none⟩) (n + m) (grownCap w (n + m) old e)) (n + m) (xs ++ List.replicate m (.int .u8 0)) ∧
      w.grownBy (w.drew.alloc (.cells (xs.toArray ++ Builtin.zeroCells #[Value.int .u8 0] m ++ Builtin.zeroCells #[Value.int .u8 0] (grownCap w (n + m) old e - (n + m))) e)) row := by
    intro old row
    have hge := grownCap_ge w (n + m) old e
    have hcm : grownCap w (n + m) old e ≤ maxLen := grownCap_le_maxLen w (n + m) old e (by unfold maxLen; omega)
    have hx1 := hown.1
    refine ⟨⟨hlen, .inr ⟨w.heap.size, _, _, rfl, hbase, heap_alloc_new w.drew _, hge, hcm, ?_, ?_⟩⟩, ⟨rfl, rfl, rfl, by simp, fun k hk _ => heap_alloc_old w.drew _ hk⟩⟩
    · simp only [Array.size_append, List.size_toArray, size_zeroCells, List.size_toArray, List.length_cons, List.length_nil]
      omega
    · simp only [zeroCells_u8, Array.toList_append, List.append_assoc]
      rw [← List.append_assoc, ← hlen]
      exact List.take_left
  have h48' : ∀ old, old < n + m → ¬ (281474976710656 < Builtin.nextslicecap (n + m) old) := by
    intro old ho
    have := growslice_fits (need := n + m) (old := old) (bytes := 1) ho (by omega)
    omega
  rcases hown.2 with ⟨rfl, rfl⟩ | ⟨g, cap, cur, rfl, hbg, hg, hnc, hcm, hcs, htake⟩
  · have hx : xs = [] := List.eq_nil_of_length_eq_zero (by simpa using hown.1)
    subst hx
    by_cases hm0 : m = 0
    · subst hm0
      refine ⟨.slice none 0 0, w, ?_, by simpa using World.ownsRow_nil w base e 1, ⟨rfl, rfl, rfl, Nat.le_refl _, fun _ _ _ => rfl⟩⟩
      simp [Builtin.append_, run_underlying ht, run_underlying hti, sizeOf, typeInfo, hi, hsize, hby, asInt, asIntOf, IntWalk.i64_in]
    · have h63' : ¬ (9223372036854775807 < (m : Int)) := by omega
      have h4 := h48' 0 (by omega)
      have hgr := grown 0 (Value.ownBlock (.slice none 0 0))
      simp only [Nat.zero_add, List.nil_append, Array.empty_append] at hgr h4 ⊢
      refine ⟨_, _, ?_, hgr.1, hgr.2⟩
      simp [Builtin.append_, run_underlying ht, run_underlying hti, sizeOf, typeInfo, hi, hz, hsize, hby, hcells, asInt, asIntOf, hwrap, h0, h48, hm0, h63', h4, zeroValue, Builtin.firstCells, Question.forced, newRow, grownCap]
  · by_cases hroom : n + m ≤ cap
    · have hst := run_storeCells_at P g (n * 1) e (List.replicate m (Value.int .u8 0)) 0 cur w hg (by rw [List.length_replicate]; omega) (by intro u hu; rw [List.eq_of_mem_replicate hu]; rfl)
      simp only [Nat.add_zero, Nat.mul_one] at hst
      refine ⟨.slice (some ⟨g, 0, none⟩) (n + m) cap, w.setRow g (cur.toList.take n ++ List.replicate m (Value.int .u8 0) ++ cur.toList.drop (n + (List.replicate m (Value.int .u8 0)).length)).toArray, ?_,
        ⟨hlen, .inr ⟨g, cap, _, rfl, hbg, setRow_heap w g cur _ e _ hg, hroom, hcm, ?_, ?_⟩⟩, ⟨rfl, rfl, rfl, by simp, fun k _ hk => setRow_other w g k _ (fun e => hk (by simp [Value.ownBlock, e]))⟩⟩
      · by_cases hm0 : m = 0
        · subst hm0
          simp only [List.replicate_zero] at hst
          simp [Builtin.append_, run_underlying ht, run_underlying hti, sizeOf, typeInfo, hi, hsize, hby, asInt, asIntOf, IntWalk.i64_in, hnc, Addr.add_lit, hst]
        · simp [Builtin.append_, run_underlying ht, run_underlying hti, sizeOf, typeInfo, hi, hz, hsize, hby, hcells, asInt, asIntOf, hwrap, h0, h48, hm0, hroom, zeroValue, zeroCells_u8, Addr.add_lit, hst]
      · simp only [List.size_toArray, List.length_append, List.length_take, List.length_drop, Array.length_toList, List.length_replicate]
        omega
      · rw [Nat.mul_one] at htake
        rw [htake, ← hlen]
        exact List.take_left
    · have holds : ∀ j u, xs[j]? = some u → w.cell? ((⟨g, 0, none⟩ : Addr).add j) = some u := hown.cells (g := g) rfl
      have hf := run_firstCells_some (P := P) w.drew 1 n ⟨g, 0, none⟩ n cap xs hown.1 (by simpa using holds)
      have h63' : ¬ (9223372036854775807 < ((n : Int) + (m : Int))) := by omega
      have h4 := h48' cap (by omega)
      have hm0 : ¬ m = 0 := by omega
      have hgr := grown cap (Value.ownBlock (.slice (some ⟨g, 0, none⟩) n cap))
      refine ⟨_, _, ?_, hgr.1, hgr.2⟩
      simp [Builtin.append_, run_underlying ht, run_underlying hti, sizeOf, typeInfo, hi, hz, hsize, hby, hcells, asInt, asIntOf, hwrap, h0, h48, hm0, hroom, h63', h4, zeroValue, hf, Question.forced, newRow, grownCap]
theorem wp_appZ {P : Program} {w : World} {o : Oper} {a : Act} {K : Act → World → Prop} {Q : Exit → Act → World → Prop} (s x : Operand) (t ti : TypeId)
    (ho : o.op = .call { callee := .builtin .append, args := #[s, x], argTypes := #[t, ti] })
    (base : Nat) (e : TypeId) (i : TypeInfo) (ht : P.underlying t = some (.slice e)) (hti : P.underlying ti = some (.int .i64)) (hi : P.info? e = some i) (hz : i.zero = some (.int .u8 0)) (hsize : i.size = 1) (hby : i.bytes = 1)
    (v : Value) (n : Nat) (l : List UInt8) (hs : a.eval s = v) (hown : w.ownsRow base e 1 v n (bv l)) (m : Nat) (hx : a.eval x = .int .i64 (m : Int)) (hn : n ≤ 1000000000) (hm : m ≤ 1000000000) (hbase : base ≤ w.heap.size)
    (h : ∀ v' w', w'.ownsRow base e 1 v' (n + m) (bv (l ++ List.replicate m 0)) → w.grownBy w' v.ownBlock → K (a.put o.dst v') w') : o.wp P a w K Q := by
  obtain ⟨v', w', hrun, h2, h3⟩ := app_zero_run (P := P) w base t ti o.type e i ht hti hi hz hsize hby v n (bv l) hown m hn hm hbase
  unfold Oper.wp execOp
  simp only [ho, resolve, invoke, builtin, Sem.run_bind, Sem.run_pure, Result.andThen_ok, List.map_toArray, List.map_cons, List.map_nil, hs, hx, hrun]
  refine h v' w' ?_ h3
  have e0 : bv (List.replicate m 0) = List.replicate m (Value.int .u8 0) := by simp [bv]
  rw [bv_append, e0]
  exact h2
theorem wpList_appZ {P : Program} {w : World} {ops : Array Oper} {rest : List Oper} {o : Oper} {a : Act} {Q : Exit → Act → World → Prop} (hgd : o.guard = none) (s x : Operand) (t ti : TypeId)
    (ho : o.op = .call { callee := .builtin .append, args := #[s, x], argTypes := #[t, ti] })
    (base : Nat) (e : TypeId) (i : TypeInfo) (ht : P.underlying t = some (.slice e)) (hti : P.underlying ti = some (.int .i64)) (hi : P.info? e = some i) (hz : i.zero = some (.int .u8 0)) (hsize : i.size = 1) (hby : i.bytes = 1)
    (v : Value) (n : Nat) (l : List UInt8) (hs : a.eval s = v) (hown : w.ownsRow base e 1 v n (bv l)) (m : Nat) (hx : a.eval x = .int .i64 (m : Int)) (hn : n ≤ 1000000000) (hm : m ≤ 1000000000) (hbase : base ≤ w.heap.size)
    (h : ∀ v' w', w'.ownsRow base e 1 v' (n + m) (bv (l ++ List.replicate m 0)) → w.grownBy w' v.ownBlock → wpList P ops Q rest (a.put o.dst v') w') : wpList P ops Q (o :: rest) a w :=
  wpList_plain hgd fun _ hK => wp_appZ s x t ti ho base e i ht hti hi hz hsize hby v n l hs hown m hx hn hm hbase fun v' w' h2 h3 => hK _ _ (h v' w' h2 h3)
end Go.Proofs.YtidcnoejihjgjaaGreatDoor
