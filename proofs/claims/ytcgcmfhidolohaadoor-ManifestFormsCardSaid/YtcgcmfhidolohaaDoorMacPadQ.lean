/- mac's pad, Tag, Right: by contracts. -/
import Derived.Laws.CopyOwn
import Derived.Test.YtcgcmfhidolohaaDoorDgLongQ
namespace Go.Proofs.YtcgcmfhidolohaaDoor.Sh
open Go.RowKit
theorem rep_list (n : Nat) (v : Value) : Array.replicate n v = (List.replicate n v).toArray := by simp
def keyOf (l : List UInt8) : List UInt8 := if 64 < l.length then Sha.D l else l
def padB (k : List UInt8) (x : UInt8) : List UInt8 := (List.range 64).map fun i => k.getD i 0 ^^^ x
def tagOf (key b : List UInt8) : List UInt8 := Sha.D (padB (keyOf key) 0x5c ++ Sha.D (padB (keyOf key) 0x36 ++ b))
theorem padB_length (k : List UInt8) (x : UInt8) : (padB k x).length = 64 := by simp [padB]
theorem xor_int (a b : UInt8) : bits .xor .u8 (a.toNat : Int) (b.toNat : Int) = ((a ^^^ b).toNat : Int) := by
  rw [u8_xor_nat _ _ (CrcM.b_lt _) (CrcM.b_lt _), ← UInt8.toNat_xor]
/-- block g: n bytes, byte i is f i -/
def BAt (W : World) (g n : Nat) (f : Nat → UInt8) : Prop := ∃ cs : Array Value, W.heap[g]? = some (.cells cs 5 (0, 0)) ∧ cs.size = n ∧ ∀ i, i < n → cs[i]? = some (.int .u8 ((f i).toNat : Int))
section
variable {W W' : World} {g n : Nat} {f f' : Nat → UInt8}
theorem BAt.lt (h : BAt W g n f) : g < W.heap.size := by
  obtain ⟨cs, hg, _⟩ := h
  exact (Array.getElem?_eq_some_iff.1 hg).1
theorem BAt.at_ (h : BAt W g n f) {i : Nat} (hi : i < n) : W.cell? ⟨g, i, none⟩ = some (.int .u8 ((f i).toNat : Int)) := by
  obtain ⟨cs, hg, _, hc⟩ := h
  rw [cell_of_row W g i cs _ (0, 0) hg]
  exact hc i hi
theorem BAt.frozen (h : BAt W g n f) (i : Nat) : W.frozen? ⟨g, i, none⟩ = false := by
  obtain ⟨cs, hg, _, _⟩ := h
  exact frozen_of_row W g i cs _ hg
theorem BAt.store (h : BAt W g n f) {k : Nat} {x : UInt8} (hk : k < n) (hf : ∀ i, i < n → f' i = if i = k then x else f i) : BAt (W.setCell ⟨g, k, none⟩ (.int .u8 (x.toNat : Int))) g n f' := by
  obtain ⟨cs, hg, hs, hc⟩ := h
  refine ⟨cs.setIfInBounds k (.int .u8 (x.toNat : Int)), heap_setCell_same W g k cs _ _ hg, by simpa using hs, fun i hi => ?_⟩
  rw [hf i hi, Array.getElem?_setIfInBounds]
  by_cases e : k = i
  · subst e; rw [if_pos rfl, if_pos (by omega), if_pos rfl]
  · rw [if_neg e, if_neg (fun e' => e e'.symm)]; exact hc i hi
theorem BAt.own {base : Nat} (h : BAt W g n f) (hb : base ≤ g) (hn : n ≤ maxLen) : W.ownsRow base 5 1 (.slice (some ⟨g, 0, none⟩) n n) n (bv ((List.range n).map f)) := by
  obtain ⟨cs, hg, hs, hc⟩ := h
  refine ⟨by simp [bv], .inr ⟨g, n, cs, rfl, hb, hg, Nat.le_refl _, hn, by simpa using hs, ?_⟩⟩
  apply List.ext_getElem?
  intro i
  by_cases hi : i < n
  · rw [Nat.mul_one, List.getElem?_take_of_lt hi, Array.getElem?_toList, hc i hi]
    simp [bv, hi]
  · rw [Nat.mul_one, List.getElem?_take_eq_none (by omega), List.getElem?_eq_none (by simp [bv]; omega)]
theorem BAt.keep (h : BAt W g n f) (hb : W'.heap[g]? = W.heap[g]?) : BAt W' g n f := by
  obtain ⟨cs, hg, r⟩ := h
  exact ⟨cs, hb.trans hg, r⟩
theorem BAt.fun_ (h : BAt W g n f) (he : ∀ i, i < n → f' i = f i) : BAt W g n f' := by
  obtain ⟨cs, hg, hs, hc⟩ := h
  exact ⟨cs, hg, hs, fun i hi => by rw [hc i hi, he i hi]⟩
end
theorem splice_at {W : World} {g : Nat} {Z : List Value} {l : List UInt8} (hZ : List.replicate 64 (Value.int .u8 0) = Z) (hl : l.length ≤ 64) (h : W.heap[g]? = some (.cells (splice Z 0 (bv l)).toArray 5 (0, 0))) : BAt W g 64 (fun i => l.getD i 0) := by
  refine ⟨_, h, ?_, fun i hi => ?_⟩
  · rw [List.size_toArray, length_splice Z 0 (bv l) (by rw [← hZ, bv_length, List.length_replicate]; omega), ← hZ, List.length_replicate]
  · rw [List.getElem?_toArray]
    simp only [splice, List.take_zero, List.nil_append, Nat.zero_add]
    by_cases hi2 : i < l.length
    · rw [List.getElem?_append_left (by rw [bv_length]; exact hi2), bv_get l i hi2, List.getD_eq_getElem?_getD, List.getElem?_eq_getElem hi2]; rfl
    · rw [List.getElem?_append_right (by rw [bv_length]; omega), bv_length, List.getElem?_drop, ← hZ, List.getElem?_replicate, if_pos (by omega), List.getD_eq_getElem?_getD, List.getElem?_eq_none (by omega)]; rfl
def xorTo (l : List UInt8) (x : UInt8) (k i : Nat) : UInt8 := if i < k then l.getD i 0 ^^^ x else l.getD i 0
def PadOk (l : List UInt8) (w : World) (e : Ending) (w' : World) : Prop :=
  ∃ A c, e = .returned (.slice A 64 c) ∧ Hid (w'.ownsRow w.heap.size 5 1 (.slice A 64 c) 64 (bv l)) ∧ Hid (Below w.heap.size w w')
set_option maxRecDepth 100000 in
set_option maxHeartbeats 1600000 in
theorem pad_small (B n' c' : Nat) (A' : Option Addr) (l' : List UInt8) (x : UInt8) (w : World) (hl : Row w B A' n' (bv l')) (hB : B ≤ w.heap.size) (hn : n' ≤ 64) :
    Calls Tryd.prog 35 #[.slice A' n' c', .int .u8 (x.toNat : Int)] w (PadOk (padB l' x) w) := by
  have HROW := Lib.hid hl
  have HL' := Lib.hid hl.blen
  have HB' := Lib.hid hB
  have HBW := Lib.hid (Below.refl w.heap.size w)
  obtain ⟨Z, hZ⟩ : ∃ Z : List Value, List.replicate 64 (.int .u8 0) = Z := ⟨_, rfl⟩
  have hm : ∀ W, (Instr.makeSlice 23 (.int .i64 64) (.int .i64 64)).run Tryd.prog W = .ok (.slice (some ⟨W.heap.size, 0, none⟩) 64 64) (W.alloc (.cells Z.toArray 5)) := by
    intro W
    rw [← hZ]
    have := mk_bytes 64 (by omega) W
    rw [rep_list] at this
    exact this
  have HZ := Lib.hid hZ
  clear hZ
  clear hl hB
  have hn' : ¬ (64 : Int) < (n' : Int) := by omega
  have hm0 := hm w
  go_enter Tryd.func35, Tryd.ntmps35
  have hw64 : w.heap.size ≤ w.heap.size := HBW.out.size
  have hA0 : Hid (Below w.heap.size w (w.alloc (.cells Z.toArray 5))) := HBW.out.alloc hw64 _
  have B1 := Lib.hid (heap_alloc_new w (.cells Z.toArray 5))
  have hsrc : Hid (0 < (bv l').length → ∃ ad, A' = some ad ∧ ∀ j v, (bv l')[j]? = some v → (w.alloc (.cells Z.toArray 5)).cell? (ad.add j) = some v) := by
    intro hp
    rw [bv_length, HL'.out] at hp
    obtain ⟨b, o, e, _, hc⟩ := (HROW.out.alloc HB'.out (.cells Z.toArray 5)).2 hp
    exact ⟨_, e, fun j v hv => by rw [plain_add]; exact hc j v hv⟩
  have hmk := hm0
  clear hm0
  go_wp2_with ((with_reducible show wpList _ _ _ _ _ _); refine wpList_copy_splice (o := ⟨some 15, _, _, _, _, _⟩) rfl (.tmp 13) (.tmp 14) 23 23 rfl 5 Tryd.underlying23 (by kernel_rfl) (some ⟨w.heap.size, 0, none⟩) A' 64 64 n' c' rfl rfl w.heap.size 0 Z 5 B1.out (bv l') (by rw [bv_length, HL'.out]; exact (Nat.min_eq_left (by omega)).symm) (fun hp => ⟨rfl, hsrc.out hp⟩) (by rw [bv_length, HL'.out, ← HZ.out, List.length_replicate]; omega) (bv_one _) w.heap.size w hA0.out hw64 ?_; intro w2 hcp hb2; clear hmk)
  have hC0 : Hid (BAt w2 w.heap.size 64 (xorTo l' x 0) ∧ Below w.heap.size w w2) := ⟨(splice_at HZ.out (by rw [HL'.out]; omega) hcp.out).fun_ (fun i _ => by unfold xorTo; rw [if_neg (by omega)]), hb2⟩
  clear hcp hb2 hsrc B1 hA0
  go_wp2_with fail
  go_loopw [18] (fun i wr => ∃ k : Nat, k ≤ 64 ∧ i = .int .i64 k ∧ Hid (BAt wr w.heap.size 64 (xorTo l' x k) ∧ Below w.heap.size w wr)) (fun i _ => 64 - (intOf i).toNat)
  case atStart => exact ⟨0, by omega, rfl, hC0⟩
  case round =>
    obtain ⟨k, hk, rfl, hd⟩ := hrel
    clear hC0
    by_cases hlt : k < 64
    · have hcell := hd.out.1.at_ hlt
      have hfr := hd.out.1.frozen k
      have e0 : xorTo l' x k k = l'.getD k 0 := by unfold xorTo; rw [if_neg (by omega)]
      rw [e0] at hcell
      have HX := Lib.hid (xor_int (l'.getD k 0) x)
      have hD : Hid (BAt (wr.setCell ⟨w.heap.size, k, none⟩ (.int .u8 ((l'.getD k 0 ^^^ x).toNat : Int))) w.heap.size 64 (xorTo l' x (k + 1)) ∧ Below w.heap.size w (wr.setCell ⟨w.heap.size, k, none⟩ (.int .u8 ((l'.getD k 0 ^^^ x).toNat : Int)))) := by
        refine ⟨hd.out.1.store hlt fun i hi => ?_, hd.out.2.setCell hw64 _⟩
        unfold xorTo
        by_cases e : i = k
        · subst e; rw [if_pos rfl, if_pos (by omega)]
        · rw [if_neg e]
          by_cases h9 : i < k
          · rw [if_pos (by omega), if_pos h9]
          · rw [if_neg (by omega), if_neg h9]
      have k64 : (k : Int) < 64 := by omega
      clear hd e0
      generalize l'.getD k 0 = y at *
      go_wp2_with fail
      go_roundw
      case rel => exact ⟨k + 1, by omega, by go_num, by rw [HX.out]; exact hD⟩
      case measure => simp [intOf]; omega
    · obtain rfl : 64 = k := by omega
      go_wp2_with fail
      go_ret
      refine ⟨some ⟨w.heap.size, 0, none⟩, 64, rfl, ?_, hd.out.2⟩
      have := hd.out.1.own hw64 (by unfold maxLen; omega)
      rw [show (List.range 64).map (xorTo l' x 64) = padB l' x by unfold padB; apply List.map_congr_left; intro i hi; unfold xorTo; rw [if_pos (List.mem_range.1 hi)]] at this
      exact this
set_option maxRecDepth 100000 in
set_option maxHeartbeats 1600000 in
theorem pad_big (B n c : Nat) (A : Option Addr) (l : List UInt8) (x : UInt8) (w : World) (ht : Tab w) (hl : Row w B A n (bv l)) (hB : B ≤ w.heap.size) (hn : 64 < n) (hn2 : n ≤ 100000000000000000) :
    Calls Tryd.prog 35 #[.slice A n c, .int .u8 (x.toNat : Int)] w (PadOk (padB (Sha.D l) x) w) := by
  have HR0 := Lib.hid hl
  have HT := Lib.hid ht
  have HB0 := Lib.hid hB
  obtain ⟨Z, hZ⟩ : ∃ Z : List Value, List.replicate 64 (.int .u8 0) = Z := ⟨_, rfl⟩
  have hm : ∀ W, (Instr.makeSlice 23 (.int .i64 64) (.int .i64 64)).run Tryd.prog W = .ok (.slice (some ⟨W.heap.size, 0, none⟩) 64 64) (W.alloc (.cells Z.toArray 5)) := by
    intro W
    rw [← hZ]
    have := mk_bytes 64 (by omega) W
    rw [rep_list] at this
    exact this
  have HZ := Lib.hid hZ
  clear hZ
  clear hl hB ht
  have hn' : (64 : Int) < (n : Int) := by omega
  go_enter Tryd.func35, Tryd.ntmps35
  go_wp2_with fail
  refine (sum_any B n c A l w HT.out HR0.out HB0.out hn2).mono ?_
  rintro e w1 ⟨A', c', rfl, O1, HBW⟩
  have HROW := Lib.hid (Row.of_own O1.out)
  have HB' := Lib.hid (Nat.le_refl w1.heap.size)
  have HL' := Lib.hid (Sha.D_length l)
  clear O1
  generalize Sha.D l = l' at *
  have hw64 : w.heap.size ≤ w1.heap.size := HBW.out.size
  have hA0 : Hid (Below w.heap.size w (w1.alloc (.cells Z.toArray 5))) := HBW.out.alloc hw64 _
  have B1 := Lib.hid (heap_alloc_new w1 (.cells Z.toArray 5))
  have hsrc : Hid (0 < (bv l').length → ∃ ad, A' = some ad ∧ ∀ j v, (bv l')[j]? = some v → (w1.alloc (.cells Z.toArray 5)).cell? (ad.add j) = some v) := by
    intro hp
    rw [bv_length, HL'.out] at hp
    obtain ⟨b, o, e, _, hc⟩ := (HROW.out.alloc HB'.out (.cells Z.toArray 5)).2 hp
    exact ⟨_, e, fun j v hv => by rw [plain_add]; exact hc j v hv⟩
  have hmk := hm w1
  go_wp2_with ((with_reducible show wpList _ _ _ _ _ _); refine wpList_copy_splice (o := ⟨some 15, _, _, _, _, _⟩) rfl (.tmp 13) (.tmp 14) 23 23 rfl 5 Tryd.underlying23 (by kernel_rfl) (some ⟨w1.heap.size, 0, none⟩) A' 64 64 32 c' rfl rfl w1.heap.size 0 Z 5 B1.out (bv l') (by rw [bv_length, HL'.out]; exact (Nat.min_eq_left (by omega)).symm) (fun hp => ⟨rfl, hsrc.out hp⟩) (by rw [bv_length, HL'.out, ← HZ.out, List.length_replicate]; omega) (bv_one _) w.heap.size w hA0.out hw64 ?_; intro w2 hcp hb2; clear hmk)
  have hC0 : Hid (BAt w2 w1.heap.size 64 (xorTo l' x 0) ∧ Below w.heap.size w w2) := ⟨(splice_at HZ.out (by rw [HL'.out]; omega) hcp.out).fun_ (fun i _ => by unfold xorTo; rw [if_neg (by omega)]), hb2⟩
  clear hcp hb2 hsrc B1 hA0
  go_wp2_with fail
  go_loopw [18] (fun i wr => ∃ k : Nat, k ≤ 64 ∧ i = .int .i64 k ∧ Hid (BAt wr w1.heap.size 64 (xorTo l' x k) ∧ Below w.heap.size w wr)) (fun i _ => 64 - (intOf i).toNat)
  case atStart => exact ⟨0, by omega, rfl, hC0⟩
  case round =>
    obtain ⟨k, hk, rfl, hd⟩ := hrel
    clear hC0
    by_cases hlt : k < 64
    · have hcell := hd.out.1.at_ hlt
      have hfr := hd.out.1.frozen k
      have e0 : xorTo l' x k k = l'.getD k 0 := by unfold xorTo; rw [if_neg (by omega)]
      rw [e0] at hcell
      have HX := Lib.hid (xor_int (l'.getD k 0) x)
      have hD : Hid (BAt (wr.setCell ⟨w1.heap.size, k, none⟩ (.int .u8 ((l'.getD k 0 ^^^ x).toNat : Int))) w1.heap.size 64 (xorTo l' x (k + 1)) ∧ Below w.heap.size w (wr.setCell ⟨w1.heap.size, k, none⟩ (.int .u8 ((l'.getD k 0 ^^^ x).toNat : Int)))) := by
        refine ⟨hd.out.1.store hlt fun i hi => ?_, hd.out.2.setCell hw64 _⟩
        unfold xorTo
        by_cases e : i = k
        · subst e; rw [if_pos rfl, if_pos (by omega)]
        · rw [if_neg e]
          by_cases h9 : i < k
          · rw [if_pos (by omega), if_pos h9]
          · rw [if_neg (by omega), if_neg h9]
      have k64 : (k : Int) < 64 := by omega
      clear hd e0
      generalize l'.getD k 0 = y at *
      go_wp2_with fail
      go_roundw
      case rel => exact ⟨k + 1, by omega, by go_num, by rw [HX.out]; exact hD⟩
      case measure => simp [intOf]; omega
    · obtain rfl : 64 = k := by omega
      go_wp2_with fail
      go_ret
      refine ⟨some ⟨w1.heap.size, 0, none⟩, 64, rfl, ?_, hd.out.2⟩
      have := hd.out.1.own hw64 (by unfold maxLen; omega)
      rw [show (List.range 64).map (xorTo l' x 64) = padB l' x by unfold padB; apply List.map_congr_left; intro i hi; unfold xorTo; rw [if_pos (List.mem_range.1 hi)]] at this
      exact this
end Go.Proofs.YtcgcmfhidolohaaDoor.Sh
