/- digest's laws: what their helpers do; DigestOnce. -/
import Derived.Deep.DeepCutAuto
import Derived.Laws.CopyOwn
import Derived.Test.YtmncpgfdpcckpaaGreatDoorZOQN
import Derived.Test.YtmncpgfdpcckpaaGreatDoorZZCQN
set_option maxRecDepth 100000
namespace Go.Proofs.YtmncpgfdpcckpaaGreatDoor.Sh
open Go.RowKit Go.ChangeShapes Go.WideShapes Go.ChangeAt
theorem own_cell {w : World} {B n c : Nat} {A : Option Addr} {l : List UInt8} (h : w.ownsRow B 5 1 (.slice A n c) n (bv l)) (hn : 0 < n) : ∃ g, A = some ⟨g, 0, none⟩ ∧ B ≤ g ∧ ∀ k, k < n → w.cell? ⟨g, k, none⟩ = some (.int .u8 ((l.getD k 0).toNat : Int)) := by
 obtain ⟨g, c2, hv, hg, _⟩ := h.form hn
 injection hv with e1 e2 e3
 refine ⟨g, e1, hg, fun k hk => ?_⟩
 obtain ⟨b, o, e, _, hl, hc⟩ := (Row.of_own h).byteAt hk
 rw [e1] at e
 injection e with e
 injection e with e e'
 subst e e'
 rw [Nat.zero_add] at hc
 rw [hc, List.getD_eq_getElem?_getD, List.getElem?_eq_getElem hl]; rfl
theorem rows2_two (w : World) (r1 r2 : BRow) (t : TypeId) (h1 : Row w w.heap.size r1.A r1.n (bv r1.l)) (h2 : Row w w.heap.size r2.A r2.n (bv r2.l)) :
  Rows2 (w.alloc (.cells #[r1.val, r2.val] t)) (w.heap.size + 1) (some ⟨w.heap.size, 0, none⟩) 2 [r1, r2] := by
 refine ⟨row_new w #[r1.val, r2.val] t (0, 0), fun r hr => ?_⟩
 simp at hr
 rcases hr with rfl | rfl
 ·exact (h1.alloc (Nat.le_refl _) _).more (by omega)
 ·exact (h2.alloc (Nat.le_refl _) _).more (by omega)
end Go.Proofs.YtmncpgfdpcckpaaGreatDoor.Sh
namespace Go.Proofs.YtmncpgfdpcckpaaGreatDoor.Sh
open Go.RowKit
theorem made_list (v : Value) (n : Nat) : madeCells #[v] n = Array.replicate n v := by
 apply Array.toList_inj.1
 rw [toList_madeCells_one]; simp
theorem mk_bytes (c : Nat) (hc : c ≤ 1000000000) (w : World) : (Instr.makeSlice 22 (.int .i64 (c : Int)) (.int .i64 (c : Int))).run Tryz.prog w = .ok (.slice (some ⟨w.heap.size, 0, none⟩) c c) (w.alloc (.cells (Array.replicate c (.int .u8 0)) 5)) := by
 obtain ⟨i0, hi, hz0, hz1, hz2⟩ := info_parts Tryz.info5
 have := run_make (P := Tryz.prog) w 22 5 i0 (.int .u8 0) Tryz.underlying22 hi hz0 .i64 .i64 c c (by omega) (Int.le_refl _) (by rw [hz2]; omega) (by omega)
 simpa [hz1, Value.cells, made_list] using this
end Go.Proofs.YtmncpgfdpcckpaaGreatDoor.Sh
namespace Go.Proofs.YtmncpgfdpcckpaaGreatDoor.Sh
open Go.RowKit
theorem rep_list (n : Nat) (v : Value) : Array.replicate n v = (List.replicate n v).toArray := by simp
def keyOf (l : List UInt8) : List UInt8 := if 64 < l.length then Sha.D l else l
def padB (k : List UInt8) (x : UInt8) : List UInt8 := (List.range 64).map fun i => k.getD i 0 ^^^ x
def tagOf (key b : List UInt8) : List UInt8 := Sha.D (padB (keyOf key) 0x5c ++ Sha.D (padB (keyOf key) 0x36 ++ b))
theorem padB_length (k : List UInt8) (x : UInt8) : (padB k x).length = 64 := by simp [padB]
theorem xor_int (a b : UInt8) : bits .xor .u8 (a.toNat : Int) (b.toNat : Int) = ((a ^^^ b).toNat : Int) := by
 rw [u8_xor_nat _ _ (CrcM.b_lt _) (CrcM.b_lt _), ← UInt8.toNat_xor]
def BAt (W : World) (g n : Nat) (f : Nat → UInt8) : Prop := ∃ cs : Array Value, W.heap[g]? = some (.cells cs 5 (0, 0)) ∧ cs.size = n ∧ ∀ i, i < n → cs[i]? = some (.int .u8 ((f i).toNat : Int))
section
variable {W W' : World} {g n : Nat} {f f' : Nat → UInt8}
theorem BAt.at_ (h : BAt W g n f) {i : Nat} (hi : i < n) : W.cell? ⟨g, i, none⟩ = some (.int .u8 ((f i).toNat : Int)) := by
 obtain ⟨cs, hg, _, hc⟩ := h
 rw [cell_of_row W g i cs _ (0, 0) hg]
 exact hc i hi
theorem BAt.frozen (h : BAt W g n f) (i : Nat) : W.frozen? ⟨g, i, none⟩ = false := by
 obtain ⟨cs, hg, _, _⟩ := h
 exact frozen_of_row W g i cs _ hg
theorem BAt.store (h : BAt W g n f) {k : Nat} {x : UInt8} (hk : k < n) (hf : ∀ i, i < n → f' i = if i = k then x else f i) : BAt (W.setCell ⟨g, k, none⟩ (.int .u8 (x.toNat : Int))) g n f' := by
 obtain ⟨cs, hg, hs, hc⟩ := h
 refine ⟨cs.setIfInBounds k (.int .u8 (x.toNat : Int)), heap_setCell_same W g k cs _ _ hg, by simpa using hs, fun i hi => ?_⟩
 rw [hf i hi, Array.getElem?_setIfInBounds]
 by_cases e : k = i
 ·subst e; rw [if_pos rfl, if_pos (by omega), if_pos rfl]
 ·rw [if_neg e, if_neg (fun e' => e e'.symm)]; exact hc i hi
theorem BAt.own {base : Nat} (h : BAt W g n f) (hb : base ≤ g) (hn : n ≤ maxLen) : W.ownsRow base 5 1 (.slice (some ⟨g, 0, none⟩) n n) n (bv ((List.range n).map f)) := by
 obtain ⟨cs, hg, hs, hc⟩ := h
 refine ⟨by simp [bv], .inr ⟨g, n, cs, rfl, hb, hg, Nat.le_refl _, hn, by simpa using hs, ?_⟩⟩
 apply List.ext_getElem?
 intro i
 by_cases hi : i < n
 ·rw [Nat.mul_one, List.getElem?_take_of_lt hi, Array.getElem?_toList, hc i hi]
  simp [bv, hi]
 ·rw [Nat.mul_one, List.getElem?_take_eq_none (by omega), List.getElem?_eq_none (by simp [bv]; omega)]
theorem BAt.keep (h : BAt W g n f) (hb : W'.heap[g]? = W.heap[g]?) : BAt W' g n f := by
 obtain ⟨cs, hg, r⟩ := h
 exact ⟨cs, hb.trans hg, r⟩
theorem BAt.fun_ (h : BAt W g n f) (he : ∀ i, i < n → f' i = f i) : BAt W g n f' := by
 obtain ⟨cs, hg, hs, hc⟩ := h
 exact ⟨cs, hg, hs, fun i hi => by rw [hc i hi, he i hi]⟩
end
theorem splice_at {W : World} {g : Nat} {Z : List Value} {l : List UInt8} (hZ : List.replicate 64 (Value.int .u8 0) = Z) (hl : l.length ≤ 64) (h : W.heap[g]? = some (.cells (splice Z 0 (bv l)).toArray 5 (0, 0))) : BAt W g 64 (fun i => l.getD i 0) := by
 refine ⟨_, h, ?_, fun i hi => ?_⟩
 ·rw [List.size_toArray, length_splice Z 0 (bv l) (by rw [← hZ, bv_length, List.length_replicate]; omega), ← hZ, List.length_replicate]
 ·rw [List.getElem?_toArray]
  simp only [splice, List.take_zero, List.nil_append, Nat.zero_add]
  by_cases hi2 : i < l.length
  ·rw [List.getElem?_append_left (by rw [bv_length]; exact hi2), bv_get l i hi2, List.getD_eq_getElem?_getD, List.getElem?_eq_getElem hi2]; rfl
  ·rw [List.getElem?_append_right (by rw [bv_length]; omega), bv_length, List.getElem?_drop, ← hZ, List.getElem?_replicate, if_pos (by omega), List.getD_eq_getElem?_getD, List.getElem?_eq_none (by omega)]; rfl
def xorTo (l : List UInt8) (x : UInt8) (k i : Nat) : UInt8 := if i < k then l.getD i 0 ^^^ x else l.getD i 0
def PadOk (l : List UInt8) (w : World) (e : Ending) (w' : World) : Prop :=
 ∃ A c, e = .returned (.slice A 64 c) ∧ Hid (w'.ownsRow w.heap.size 5 1 (.slice A 64 c) 64 (bv l)) ∧ Hid (Below w.heap.size w w')
set_option maxHeartbeats 1600000 in
theorem pad_small (B n' c' : Nat) (A' : Option Addr) (l' : List UInt8) (x : UInt8) (w : World) (hl : Row w B A' n' (bv l')) (hB : B ≤ w.heap.size) (hn : n' ≤ 64) :
  Calls Tryz.prog 132 #[.slice A' n' c', .int .u8 (x.toNat : Int)] w (PadOk (padB l' x) w) := by
 have HROW := Lib.hid hl
 have HL' := Lib.hid hl.blen
 have HB' := Lib.hid hB
 have HBW := Lib.hid (Below.refl w.heap.size w)
 obtain ⟨Z, hZ⟩ : ∃ Z : List Value, List.replicate 64 (.int .u8 0) = Z := ⟨_, rfl⟩
 have hm : ∀ W, (Instr.makeSlice 22 (.int .i64 64) (.int .i64 64)).run Tryz.prog W = .ok (.slice (some ⟨W.heap.size, 0, none⟩) 64 64) (W.alloc (.cells Z.toArray 5)) := by
  intro W
  rw [← hZ]
  have := mk_bytes 64 (by omega) W
  rw [rep_list] at this
  exact this
 have HZ := Lib.hid hZ
 clear hZ
 clear hl hB
 have hn' : ¬ (64 : Int) < (n' : Int) := by omega
 have hm0 := hm w
 go_enter Tryz.func132, Tryz.ntmps132
 have hw64 : w.heap.size ≤ w.heap.size := HBW.out.size
 have hA0 : Hid (Below w.heap.size w (w.alloc (.cells Z.toArray 5))) := HBW.out.alloc hw64 _
 have B1 := Lib.hid (heap_alloc_new w (.cells Z.toArray 5))
 have hsrc : Hid (0 < (bv l').length → ∃ ad, A' = some ad ∧ ∀ j v, (bv l')[j]? = some v → (w.alloc (.cells Z.toArray 5)).cell? (ad.add j) = some v) := by
  intro hp
  rw [bv_length, HL'.out] at hp
  obtain ⟨b, o, e, _, hc⟩ := (HROW.out.alloc HB'.out (.cells Z.toArray 5)).2 hp
  exact ⟨_, e, fun j v hv => by rw [plain_add]; exact hc j v hv⟩
 have hmk := hm0
 clear hm0
 go_wp2_with ((with_reducible show wpList _ _ _ _ _ _); refine wpList_copy_splice (o := ⟨some 15, _, _, _, _, _⟩) rfl (.tmp 13) (.tmp 14) 22 22 rfl 5 Tryz.underlying22 (by kernel_rfl) (some ⟨w.heap.size, 0, none⟩) A' 64 64 n' c' rfl rfl w.heap.size 0 Z 5 B1.out (bv l') (by rw [bv_length, HL'.out]; exact (Nat.min_eq_left (by omega)).symm) (fun hp => ⟨rfl, hsrc.out hp⟩) (by rw [bv_length, HL'.out, ← HZ.out, List.length_replicate]; omega) (bv_one _) w.heap.size w hA0.out hw64 ?_; intro w2 hcp hb2; clear hmk)
 have hC0 : Hid (BAt w2 w.heap.size 64 (xorTo l' x 0) ∧ Below w.heap.size w w2) := ⟨(splice_at HZ.out (by rw [HL'.out]; omega) hcp.out).fun_ (fun i _ => by unfold xorTo; rw [if_neg (by omega)]), hb2⟩
 clear hcp hb2 hsrc B1 hA0
 go_wp2_with fail
 go_loopw [18] (fun i wr => ∃ k : Nat, k ≤ 64 ∧ i = .int .i64 k ∧ Hid (BAt wr w.heap.size 64 (xorTo l' x k) ∧ Below w.heap.size w wr)) (fun i _ => 64 - (intOf i).toNat)
 case atStart => exact ⟨0, by omega, rfl, hC0⟩
 case round =>
  obtain ⟨k, hk, rfl, hd⟩ := hrel
  clear hC0
  by_cases hlt : k < 64
  ·have hcell := hd.out.1.at_ hlt
   have hfr := hd.out.1.frozen k
   have e0 : xorTo l' x k k = l'.getD k 0 := by unfold xorTo; rw [if_neg (by omega)]
   rw [e0] at hcell
   have HX := Lib.hid (xor_int (l'.getD k 0) x)
   have hD : Hid (BAt (wr.setCell ⟨w.heap.size, k, none⟩ (.int .u8 ((l'.getD k 0 ^^^ x).toNat : Int))) w.heap.size 64 (xorTo l' x (k + 1)) ∧ Below w.heap.size w (wr.setCell ⟨w.heap.size, k, none⟩ (.int .u8 ((l'.getD k 0 ^^^ x).toNat : Int)))) := by
    refine ⟨hd.out.1.store hlt fun i hi => ?_, hd.out.2.setCell hw64 _⟩
    unfold xorTo
    by_cases e : i = k
    ·subst e; rw [if_pos rfl, if_pos (by omega)]
    ·rw [if_neg e]
     by_cases h9 : i < k
     ·rw [if_pos (by omega), if_pos h9]
     ·rw [if_neg (by omega), if_neg h9]
   have k64 : (k : Int) < 64 := by omega
   clear hd e0
   generalize l'.getD k 0 = y at *
   go_wp2_with fail
   go_roundw
   case rel => exact ⟨k + 1, by omega, by go_num, by rw [HX.out]; exact hD⟩
   case measure => simp [intOf]; omega
  ·obtain rfl : 64 = k := by omega
   go_wp2_with fail
   go_ret
   refine ⟨some ⟨w.heap.size, 0, none⟩, 64, rfl, ?_, hd.out.2⟩
   have := hd.out.1.own hw64 (by unfold maxLen; omega)
   rw [show (List.range 64).map (xorTo l' x 64) = padB l' x by unfold padB; apply List.map_congr_left; intro i hi; unfold xorTo; rw [if_pos (List.mem_range.1 hi)]] at this
   exact this
set_option maxHeartbeats 1600000 in
theorem pad_big (B n c : Nat) (A : Option Addr) (l : List UInt8) (x : UInt8) (w : World) (ht : Tab w) (hl : Row w B A n (bv l)) (hB : B ≤ w.heap.size) (hn : 64 < n) (hn2 : n ≤ 100000000000000000) :
  Calls Tryz.prog 132 #[.slice A n c, .int .u8 (x.toNat : Int)] w (PadOk (padB (Sha.D l) x) w) := by
 have HR0 := Lib.hid hl
 have HT := Lib.hid ht
 have HB0 := Lib.hid hB
 obtain ⟨Z, hZ⟩ : ∃ Z : List Value, List.replicate 64 (.int .u8 0) = Z := ⟨_, rfl⟩
 have hm : ∀ W, (Instr.makeSlice 22 (.int .i64 64) (.int .i64 64)).run Tryz.prog W = .ok (.slice (some ⟨W.heap.size, 0, none⟩) 64 64) (W.alloc (.cells Z.toArray 5)) := by
  intro W
  rw [← hZ]
  have := mk_bytes 64 (by omega) W
  rw [rep_list] at this
  exact this
 have HZ := Lib.hid hZ
 clear hZ
 clear hl hB ht
 have hn' : (64 : Int) < (n : Int) := by omega
 go_enter Tryz.func132, Tryz.ntmps132
 go_wp2_with fail
 refine (sum_any B n c A l w HT.out HR0.out HB0.out hn2).mono ?_
 rintro e w1 ⟨A', c', rfl, O1, HBW⟩
 have HROW := Lib.hid (Row.of_own O1.out)
 have HB' := Lib.hid (Nat.le_refl w1.heap.size)
 have HL' := Lib.hid (Sha.D_length l)
 clear O1
 generalize Sha.D l = l' at *
 have hw64 : w.heap.size ≤ w1.heap.size := HBW.out.size
 have hA0 : Hid (Below w.heap.size w (w1.alloc (.cells Z.toArray 5))) := HBW.out.alloc hw64 _
 have B1 := Lib.hid (heap_alloc_new w1 (.cells Z.toArray 5))
 have hsrc : Hid (0 < (bv l').length → ∃ ad, A' = some ad ∧ ∀ j v, (bv l')[j]? = some v → (w1.alloc (.cells Z.toArray 5)).cell? (ad.add j) = some v) := by
  intro hp
  rw [bv_length, HL'.out] at hp
  obtain ⟨b, o, e, _, hc⟩ := (HROW.out.alloc HB'.out (.cells Z.toArray 5)).2 hp
  exact ⟨_, e, fun j v hv => by rw [plain_add]; exact hc j v hv⟩
 have hmk := hm w1
 go_wp2_with ((with_reducible show wpList _ _ _ _ _ _); refine wpList_copy_splice (o := ⟨some 15, _, _, _, _, _⟩) rfl (.tmp 13) (.tmp 14) 22 22 rfl 5 Tryz.underlying22 (by kernel_rfl) (some ⟨w1.heap.size, 0, none⟩) A' 64 64 32 c' rfl rfl w1.heap.size 0 Z 5 B1.out (bv l') (by rw [bv_length, HL'.out]; exact (Nat.min_eq_left (by omega)).symm) (fun hp => ⟨rfl, hsrc.out hp⟩) (by rw [bv_length, HL'.out, ← HZ.out, List.length_replicate]; omega) (bv_one _) w.heap.size w hA0.out hw64 ?_; intro w2 hcp hb2; clear hmk)
 have hC0 : Hid (BAt w2 w1.heap.size 64 (xorTo l' x 0) ∧ Below w.heap.size w w2) := ⟨(splice_at HZ.out (by rw [HL'.out]; omega) hcp.out).fun_ (fun i _ => by unfold xorTo; rw [if_neg (by omega)]), hb2⟩
 clear hcp hb2 hsrc B1 hA0
 go_wp2_with fail
 go_loopw [18] (fun i wr => ∃ k : Nat, k ≤ 64 ∧ i = .int .i64 k ∧ Hid (BAt wr w1.heap.size 64 (xorTo l' x k) ∧ Below w.heap.size w wr)) (fun i _ => 64 - (intOf i).toNat)
 case atStart => exact ⟨0, by omega, rfl, hC0⟩
 case round =>
  obtain ⟨k, hk, rfl, hd⟩ := hrel
  clear hC0
  by_cases hlt : k < 64
  ·have hcell := hd.out.1.at_ hlt
   have hfr := hd.out.1.frozen k
   have e0 : xorTo l' x k k = l'.getD k 0 := by unfold xorTo; rw [if_neg (by omega)]
   rw [e0] at hcell
   have HX := Lib.hid (xor_int (l'.getD k 0) x)
   have hD : Hid (BAt (wr.setCell ⟨w1.heap.size, k, none⟩ (.int .u8 ((l'.getD k 0 ^^^ x).toNat : Int))) w1.heap.size 64 (xorTo l' x (k + 1)) ∧ Below w.heap.size w (wr.setCell ⟨w1.heap.size, k, none⟩ (.int .u8 ((l'.getD k 0 ^^^ x).toNat : Int)))) := by
    refine ⟨hd.out.1.store hlt fun i hi => ?_, hd.out.2.setCell hw64 _⟩
    unfold xorTo
    by_cases e : i = k
    ·subst e; rw [if_pos rfl, if_pos (by omega)]
    ·rw [if_neg e]
     by_cases h9 : i < k
     ·rw [if_pos (by omega), if_pos h9]
     ·rw [if_neg (by omega), if_neg h9]
   have k64 : (k : Int) < 64 := by omega
   clear hd e0
   generalize l'.getD k 0 = y at *
   go_wp2_with fail
   go_roundw
   case rel => exact ⟨k + 1, by omega, by go_num, by rw [HX.out]; exact hD⟩
   case measure => simp [intOf]; omega
  ·obtain rfl : 64 = k := by omega
   go_wp2_with fail
   go_ret
   refine ⟨some ⟨w1.heap.size, 0, none⟩, 64, rfl, ?_, hd.out.2⟩
   have := hd.out.1.own hw64 (by unfold maxLen; omega)
   rw [show (List.range 64).map (xorTo l' x 64) = padB l' x by unfold padB; apply List.map_congr_left; intro i hi; unfold xorTo; rw [if_pos (List.mem_range.1 hi)]] at this
   exact this
end Go.Proofs.YtmncpgfdpcckpaaGreatDoor.Sh
namespace Go.Proofs.YtmncpgfdpcckpaaGreatDoor.Sh
open Go.RowKit
theorem pad_any (B n c : Nat) (A : Option Addr) (l : List UInt8) (x : UInt8) (i : Int) (hi : (x.toNat : Int) = i) (w : World) (ht : Tab w) (hl : Row w B A n (bv l)) (hB : B ≤ w.heap.size) (hn2 : n ≤ 100000000000000000) :
  Calls Tryz.prog 132 #[.slice A n c, .int .u8 i] w (PadOk (padB (keyOf l) x) w) := by
 subst hi
 have hl1 := hl.blen
 by_cases h : 64 < n
 ·unfold keyOf; rw [if_pos (by omega)]
  exact pad_big B n c A l x w ht hl hB h hn2
 ·unfold keyOf; rw [if_neg (by omega)]
  exact pad_small B n c A l x w hl hB (by omega)
theorem tagOf_eq (key b : List UInt8) : tagOf key b = Sha.D (padB (keyOf key) 0x5c ++ Sha.D (padB (keyOf key) 0x36 ++ b)) := by rw [tagOf]
theorem tagOf_length (k b : List UInt8) : (tagOf k b).length = 32 := Sha.D_length _
def TagOk (l : List UInt8) (w : World) (e : Ending) (w' : World) : Prop :=
 ∃ A c, e = .returned (.slice A 32 c) ∧ Hid (w'.ownsRow w.heap.size 5 1 (.slice A 32 c) 32 (bv l)) ∧ Hid (Below w.heap.size w w')
set_option maxHeartbeats 800000 in
theorem tag_any (B1 n1 c1 : Nat) (A1 : Option Addr) (key : List UInt8) (B2 n2 c2 : Nat) (A2 : Option Addr) (b : List UInt8) (w : World) (ht : Tab w) (h1 : Row w B1 A1 n1 (bv key)) (hB1 : B1 ≤ w.heap.size) (h2 : Row w B2 A2 n2 (bv b)) (hB2 : B2 ≤ w.heap.size) (hn1 : n1 ≤ 10000000000000000) (hn2 : n2 ≤ 10000000000000000) :
  Calls Tryz.prog 97 #[.slice A1 n1 c1, .slice A2 n2 c2] w (TagOk (tagOf key b) w) := by
 have HT := Lib.hid ht
 have H1 := Lib.hid h1
 have H2 := Lib.hid h2
 have HL2 := Lib.hid h2.blen
 have HB1 := Lib.hid hB1
 have HB2 := Lib.hid hB2
 clear ht h1 h2 hB1 hB2
 go_enter Tryz.func97, Tryz.ntmps97
 go_wp2_with fail
 refine (pad_any B1 n1 c1 A1 key 0x36 _ rfl _ HT.out H1.out HB1.out (by omega)).mono ?_
 rintro e w1 ⟨A3, c3, rfl, O3, hb1⟩
 have R1 : Hid (Rows2 (w1.alloc (.cells #[.slice A3 64 c3, .slice A2 n2 c2] 22)) (w1.heap.size + 1) (some ⟨w1.heap.size, 0, none⟩) 2 [⟨A3, 64, c3, padB (keyOf key) 0x36⟩, ⟨A2, n2, c2, b⟩]) :=
  rows2_two w1 ⟨A3, 64, c3, padB (keyOf key) 0x36⟩ ⟨A2, n2, c2, b⟩ _ (Row.of_own O3.out) ((H2.out.below (hb1.out.mono HB2.out)).more (Nat.le_trans HB2.out hb1.out.size))
 have hb1' : Hid (Below w.heap.size w (w1.alloc (.cells #[.slice A3 64 c3, .slice A2 n2 c2] 22))) := hb1.out.alloc hb1.out.size _
 have hflat : Hid (flat [⟨A3, 64, c3, padB (keyOf key) 0x36⟩, ⟨A2, n2, c2, b⟩] = padB (keyOf key) 0x36 ++ b) := by show _ = _; simp [flat]
 go_wp2_with fail
 refine (rows_any (w1.heap.size + 1) 2 2 _ _ _ (HT.out.below hb1'.out HT.out.1) R1.out (by simp) (by rw [hflat.out, List.length_append, padB_length, HL2.out]; omega) (by omega)).mono ?_
 rintro e w2 ⟨A4, c4, rfl, O4, hb2⟩
 have hB2' := Lib.hid (hb1'.out.trans (hb2.out.mono hb1'.out.size))
 rw [hflat.out] at O4
 clear R1 hb1' hflat O3 hb1 hb2
 go_wp2_with fail
 refine (pad_any B1 n1 c1 A1 key 0x5c _ rfl _ (HT.out.below hB2'.out HT.out.1) (H1.out.below (hB2'.out.mono HB1.out)) (Nat.le_trans HB1.out hB2'.out.size) (by omega)).mono ?_
 rintro e w3 ⟨A5, c5, rfl, O5, hb3⟩
 have hB3 := Lib.hid (hB2'.out.trans (hb3.out.mono hB2'.out.size))
 have O4' := Lib.hid (own_below O4.out hb3.out)
 have R2 : Hid (Rows2 (w3.alloc (.cells #[.slice A5 64 c5, .slice A4 32 c4] 22)) (w3.heap.size + 1) (some ⟨w3.heap.size, 0, none⟩) 2 [⟨A5, 64, c5, padB (keyOf key) 0x5c⟩, ⟨A4, 32, c4, Sha.D (padB (keyOf key) 0x36 ++ b)⟩]) :=
  rows2_two w3 ⟨A5, 64, c5, padB (keyOf key) 0x5c⟩ ⟨A4, 32, c4, Sha.D (padB (keyOf key) 0x36 ++ b)⟩ _ (Row.of_own O5.out) (Row.of_own O4'.out)
 have hB3' : Hid (Below w.heap.size w (w3.alloc (.cells #[.slice A5 64 c5, .slice A4 32 c4] 22))) := hB3.out.alloc hB3.out.size _
 have hflat : Hid (flat [⟨A5, 64, c5, padB (keyOf key) 0x5c⟩, ⟨A4, 32, c4, Sha.D (padB (keyOf key) 0x36 ++ b)⟩] = padB (keyOf key) 0x5c ++ Sha.D (padB (keyOf key) 0x36 ++ b)) := by show _ = _; simp [flat]
 clear O4 O4' O5 hb3
 go_wp2_with fail
 refine (rows_any (w3.heap.size + 1) 2 2 _ _ _ (HT.out.below hB3'.out HT.out.1) R2.out (by simp) (by rw [hflat.out, List.length_append, padB_length, Sha.D_length]; omega) (by omega)).mono ?_
 rintro e w4 ⟨A6, c6, rfl, O6, hb4⟩
 have hB4 := Lib.hid (hB3'.out.trans (hb4.out.mono hB3'.out.size))
 rw [hflat.out] at O6
 have hfin := Lib.hid (own_base O6.out hB3'.out.size)
 go_wp2_with fail
 go_ret
 rw [← tagOf_eq] at hfin
 exact ⟨A6, c6, rfl, hfin, hB4⟩
theorem u8_or (a b : UInt8) : bits .or .u8 (a.toNat : Int) (b.toNat : Int) = ((a ||| b).toNat : Int) := by
 rw [u8_or_nat _ _ (CrcM.b_lt _) (CrcM.b_lt _), ← UInt8.toNat_or]
def wrongTo (l m : List UInt8) : Nat → UInt8
 | 0 => 0
 | k + 1 => wrongTo l m k ||| (l.getD k 0 ^^^ m.getD k 0)
theorem or_zero (a b : UInt8) : a ||| b = 0 ↔ a = 0 ∧ b = 0 := by
 constructor
 ·intro h
  have h' := congrArg UInt8.toNat h
  rw [UInt8.toNat_or] at h'
  have h0 : (0 : UInt8).toNat = 0 := rfl
  rw [h0] at h'
  have e1 : a.toNat ≤ a.toNat ||| b.toNat := Nat.left_le_or
  have e2 : b.toNat ≤ a.toNat ||| b.toNat := Nat.right_le_or
  exact ⟨UInt8.toNat_inj.1 (by rw [h0]; omega), UInt8.toNat_inj.1 (by rw [h0]; omega)⟩
 ·rintro ⟨rfl, rfl⟩; rfl
theorem xor_zero' (a b : UInt8) : a ^^^ b = 0 ↔ a = b := by
 constructor
 ·intro h
  have h' := congrArg UInt8.toNat h
  rw [UInt8.toNat_xor] at h'
  have h0 : (0 : UInt8).toNat = 0 := rfl
  rw [h0] at h'
  refine UInt8.toNat_inj.1 ?_
  have := congrArg (· ^^^ b.toNat) h'
  simpa [Nat.xor_assoc] using this
 ·rintro rfl; exact UInt8.xor_self
theorem wrong_zero (l m : List UInt8) (k : Nat) : wrongTo l m k = 0 ↔ ∀ i, i < k → l.getD i 0 = m.getD i 0 := by
 induction k with
 | zero => exact ⟨fun _ i h => absurd h (by omega), fun _ => rfl⟩
 | succ k ih =>
  rw [wrongTo, or_zero, ih, xor_zero']
  constructor
  ·rintro ⟨h1, h2⟩ i hi
   by_cases e : i = k
   ·subst e; exact h2
   ·exact h1 i (by omega)
  ·exact fun h => ⟨fun i hi => h i (by omega), h k (by omega)⟩
theorem wrong_eq (l m : List UInt8) (h : l.length = m.length) : (wrongTo l m l.length = 0) ↔ l = m := by
 rw [wrong_zero]
 constructor
 ·intro hk
  apply List.ext_getElem h
  intro i h1 h2
  have := hk i h1
  simpa [List.getD_eq_getElem?_getD, h1, h2] using this
 ·rintro rfl; exact fun _ _ => rfl
set_option maxHeartbeats 800000 in
theorem right_32 (B1 n1 c1 : Nat) (A1 : Option Addr) (key : List UInt8) (B2 n2 c2 : Nat) (A2 : Option Addr) (b : List UInt8) (B3 c3 : Nat) (A3 : Option Addr) (t : List UInt8) (w : World) (ht : Tab w) (h1 : Row w B1 A1 n1 (bv key)) (hB1 : B1 ≤ w.heap.size) (h2 : Row w B2 A2 n2 (bv b)) (hB2 : B2 ≤ w.heap.size) (hn1 : n1 ≤ 10000000000000000) (hn2 : n2 ≤ 10000000000000000) (h3 : Row w B3 A3 32 (bv t)) (hB3 : B3 ≤ w.heap.size) :
  Calls Tryz.prog 62 #[.slice A1 n1 c1, .slice A2 n2 c2, .slice A3 32 c3] w fun e w' => e = .returned (.bool (tagOf key b == t)) ∧ Below w.heap.size w w' := by
 have C := Lib.hid (tag_any B1 n1 c1 A1 key B2 n2 c2 A2 b w ht h1 hB1 h2 hB2 hn1 hn2)
 have H3 := Lib.hid (h3)
 have HB3 := Lib.hid hB3
 have HLT := Lib.hid (tagOf_length key b)
 have HL3 := Lib.hid h3.blen
 clear ht h1 hB1 h2 hB2 h3 hB3
 generalize tagOf key b = want at *
 go_enter Tryz.func62, Tryz.ntmps62
 go_wp2_with fail
 refine C.out.mono ?_
 rintro e w1 ⟨A, c, rfl, O1, hb1⟩
 obtain ⟨g, rfl, _, hc⟩ := own_cell O1.out (by omega)
 have HC := Lib.hid hc
 have H3' := Lib.hid (H3.out.below (hb1.out.mono HB3.out))
 clear hc O1 C H3
 go_wp2_with fail
 go_loop [8, 21] (fun v i => ∃ k : Nat, k ≤ 32 ∧ i = .int .i64 k ∧ v = .int .u8 ((wrongTo want t k).toNat : Int)) (fun _ i => 32 - (intOf i).toNat)
 case atStart => exact ⟨0, by omega, rfl, rfl⟩
 case round =>
  obtain ⟨k, hk, rfl, rfl⟩ := hrel
  by_cases hlt : k < 32
  ·have hcell := HC.out k hlt
   obtain ⟨b3, o3, rfl, _, hl3, hcell3⟩ := H3'.out.byteAt hlt
   have e3 : t[k] = t.getD k 0 := by rw [List.getD_eq_getElem?_getD, List.getElem?_eq_getElem hl3]; rfl
   rw [e3] at hcell3
   have HX := Lib.hid (xor_int (want.getD k 0) (t.getD k 0))
   have HO := Lib.hid (u8_or (wrongTo want t k) (want.getD k 0 ^^^ t.getD k 0))
   have HN : Hid (wrongTo want t (k + 1) = wrongTo want t k ||| (want.getD k 0 ^^^ t.getD k 0)) := rfl
   have k32 : (k : Int) < 32 := by omega
   clear e3
   generalize wrongTo want t k = wk at *
   generalize want.getD k 0 = y at *
   generalize t.getD k 0 = z at *
   go_wp2_with fail
   go_round
   case rel => exact ⟨k + 1, by omega, by go_num, by rw [HX.out, HO.out, HN.out]⟩
   case measure => simp [intOf]; omega
  ·obtain rfl : 32 = k := by omega
   have hw := wrong_eq want t (by rw [HLT.out, HL3.out])
   rw [HLT.out] at hw
   by_cases he : want = t
   ·have e1 : wrongTo want t 32 = 0 := hw.2 he
    rw [e1]
    have HE := Lib.hid he
    clear hw he e1
    go_wp2_with fail
    go_ret
    exact ⟨by rw [HE.out, beq_self_eq_true]; rfl, hb1.out⟩
   ·have e1 : ¬ wrongTo want t 32 = 0 := fun h => he (hw.1 h)
    have e2 : (((wrongTo want t 32).toNat : Int) == 0) = false := by
     have : (wrongTo want t 32).toNat ≠ 0 := fun h => e1 (UInt8.toNat_inj.1 h)
     simp; omega
    have HE : Hid ((want == t) = false) := by show _ = _; simpa using he
    clear hw he e1
    generalize (wrongTo want t 32).toNat = q at *
    go_wp2_with fail
    go_ret
    exact ⟨by rw [HE.out]; rfl, hb1.out⟩
end Go.Proofs.YtmncpgfdpcckpaaGreatDoor.Sh
