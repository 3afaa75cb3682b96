/- A hasher as it lies in memory; digest's mix: by contract. -/
import Derived.Deep.DeepCutAuto
import Derived.Test.YtcgcmfhidolohaaDoorShaSchedQ
namespace Go.Proofs.YtcgcmfhidolohaaDoor.Sh
open Go.RowKit
/-- cell i of a hasher: its state (f), its block, how many bytes wait, how many there were -/
def hcell (f : Nat → Nat) (bl : List UInt8) (wait : Nat) (tot : Int) (i : Nat) : Value :=
  if i < 8 then .int .u32 (f i : Int)
  else if i < 72 then .int .u8 ((bl.getD (i - 8) 0).toNat : Int)
  else if i = 72 then .int .i64 (wait : Int)
  else .int .u64 tot
def HAt (W : World) (g : Nat) (f : Nat → Nat) (bl : List UInt8) (wait : Nat) (tot : Int) : Prop :=
  ∃ cs : Array Value, W.heap[g]? = some (.cells cs 66 (0, 0)) ∧ cs.size = 74 ∧ ∀ i, i < 74 → cs[i]? = some (hcell f bl wait tot i)
section
variable {W W' : World} {g : Nat} {f f' : Nat → Nat} {bl bl' : List UInt8} {wait wait' : Nat} {tot tot' : Int}
theorem HAt.lt (h : HAt W g f bl wait tot) : g < W.heap.size := by
  obtain ⟨cs, hg, _⟩ := h
  exact (Array.getElem?_eq_some_iff.1 hg).1
theorem HAt.at_ (h : HAt W g f bl wait tot) {i : Nat} (hi : i < 74) : W.cell? ⟨g, i, none⟩ = some (hcell f bl wait tot i) := by
  obtain ⟨cs, hg, _, hc⟩ := h
  rw [cell_of_row W g i cs _ (0, 0) hg]
  exact hc i hi
theorem HAt.frozen (h : HAt W g f bl wait tot) (i : Nat) : W.frozen? ⟨g, i, none⟩ = false := by
  obtain ⟨cs, hg, _, _⟩ := h
  exact frozen_of_row W g i cs _ hg
theorem HAt.store (h : HAt W g f bl wait tot) {k : Nat} {v : Value} (hk : k < 74) (hf : ∀ i, i < 74 → hcell f' bl' wait' tot' i = if i = k then v else hcell f bl wait tot i) : HAt (W.setCell ⟨g, k, none⟩ v) g f' bl' wait' tot' := by
  obtain ⟨cs, hg, hs, hc⟩ := h
  refine ⟨cs.setIfInBounds k v, heap_setCell_same W g k cs _ v hg, by simpa using hs, fun i hi => ?_⟩
  rw [hf i hi, Array.getElem?_setIfInBounds]
  by_cases e : k = i
  · subst e; rw [if_pos rfl, if_pos (by omega), if_pos rfl]
  · rw [if_neg e, if_neg (fun e' => e e'.symm)]; exact hc i hi
theorem HAt.keep (h : HAt W g f bl wait tot) (hb : W'.heap[g]? = W.heap[g]?) : HAt W' g f bl wait tot := by
  obtain ⟨cs, hg, r⟩ := h
  exact ⟨cs, hb.trans hg, r⟩
theorem HAt.below {B : Nat} (h : HAt W g f bl wait tot) (hb : Below B W W') (hB : g < B) : HAt W' g f bl wait tot := h.keep (hb.block g hB)
theorem HAt.st (h : HAt W g f bl wait tot) {i : Nat} (hi : i < 8) : W.cell? ⟨g, i, none⟩ = some (.int .u32 (f i : Int)) := by
  rw [h.at_ (by omega)]; unfold hcell; rw [if_pos hi]
theorem HAt.by_ (h : HAt W g f bl wait tot) {i : Nat} (hi : i < 64) : W.cell? ⟨g, 8 + i, none⟩ = some (.int .u8 ((bl.getD i 0).toNat : Int)) := by
  rw [h.at_ (by omega)]; unfold hcell; rw [if_neg (by omega), if_pos (by omega), Nat.add_sub_cancel_left]
theorem HAt.wt (h : HAt W g f bl wait tot) : W.cell? ⟨g, 72, none⟩ = some (.int .i64 (wait : Int)) := h.at_ (by omega)
theorem HAt.tt (h : HAt W g f bl wait tot) : W.cell? ⟨g, 73, none⟩ = some (.int .u64 tot) := h.at_ (by omega)
theorem HAt.fun_ (h : HAt W g f bl wait tot) (he : ∀ i, i < 8 → f' i = f i) : HAt W g f' bl wait tot := by
  obtain ⟨cs, hg, hs, hc⟩ := h
  refine ⟨cs, hg, hs, fun i hi => ?_⟩
  rw [hc i hi]
  unfold hcell
  by_cases h8 : i < 8
  · rw [if_pos h8, if_pos h8, he i h8]
  · rw [if_neg h8, if_neg h8]
end
/-- the program's own tables: block 0 the first state, block 1 the constants -/
def Tab (W : World) : Prop :=
  2 ≤ W.heap.size ∧ (∀ i, i < 8 → W.cell? ⟨0, i, none⟩ = some (.int .u32 (Sha.first.get i : Int))) ∧ (∀ i, i < 64 → W.cell? ⟨1, i, none⟩ = some (.int .u32 (Sha.ks.getD i 0 : Int)))
theorem Tab.keep {W W' : World} (h : Tab W) (hs : W.heap.size ≤ W'.heap.size) (hb : ∀ k, k < 2 → W'.heap[k]? = W.heap[k]?) : Tab W' := by
  refine ⟨by have := h.1; omega, fun i hi => ?_, fun i hi => ?_⟩
  · rw [World.cell?_of_block (hb 0 (by omega))]; exact h.2.1 i hi
  · rw [World.cell?_of_block (hb 1 (by omega))]; exact h.2.2 i hi
theorem Tab.below {W W' : World} {B : Nat} (h : Tab W) (hb : Below B W W') (hB : 2 ≤ B) : Tab W' :=
  h.keep hb.size fun k hk => hb.block k (by omega)
theorem Tab.grown {W W' : World} {g : Nat} (h : Tab W) (hb : W.grownBy W' (some g)) (hg : 2 ≤ g) : Tab W' :=
  h.keep hb.size fun k hk => hb.block k (by have := h.1; omega) (by intro e; injection e; omega)
theorem s8v_size (s : Sha.S8) : (s8v s).size = 8 := rfl
theorem s8v_get (s : Sha.S8) (i : Nat) (h : i < 8) : (s8v s)[i]? = some (.int .u32 (s.get i : Int)) := by
  rcases (by omega : i = 0 ∨ i = 1 ∨ i = 2 ∨ i = 3 ∨ i = 4 ∨ i = 5 ∨ i = 6 ∨ i = 7) with rfl | rfl | rfl | rfl | rfl | rfl | rfl | rfl <;> rfl
theorem round_any (s : Sha.S8) (x : Nat) (w : World) (hs : s.lt) (hx : x < 4294967296) :
    Calls Tryd.prog 49 #[.agg (s8v s), .int .u32 (x : Int)] w fun e' w' => e' = .returned (.agg (s8v (Sha.round s x))) ∧ Below w.heap.size w w' := by
  obtain ⟨h0, h1, h2, h3, h4, h5, h6, h7⟩ := hs
  exact round_walk s.a s.b s.c s.d s.e s.f s.g s.h x w h0 h1 h2 h3 h4 h5 h6 h7 hx
def RoundOk (s : Sha.S8) (x : Nat) (w : World) (e : Ending) (w' : World) : Prop :=
  ∃ a b c d e' f g h : Nat, e = .returned (.agg #[.int .u32 (a : Int), .int .u32 (b : Int), .int .u32 (c : Int), .int .u32 (d : Int), .int .u32 (e' : Int), .int .u32 (f : Int), .int .u32 (g : Int), .int .u32 (h : Int)]) ∧ Hid (Sha.round s x = ⟨a, b, c, d, e', f, g, h⟩) ∧ Hid (Below w.heap.size w w')
theorem round_ok' (a b c d e f g k x : Nat) (w : World) (hs : Hid (Sha.S8.lt ⟨a, b, c, d, e, f, g, k⟩)) (hx : Hid (x < 4294967296)) :
    Calls Tryd.prog 49 #[.agg #[.int .u32 (a : Int), .int .u32 (b : Int), .int .u32 (c : Int), .int .u32 (d : Int), .int .u32 (e : Int), .int .u32 (f : Int), .int .u32 (g : Int), .int .u32 (k : Int)], .int .u32 (x : Int)] w (RoundOk ⟨a, b, c, d, e, f, g, k⟩ x w) := by
  refine (round_any ⟨a, b, c, d, e, f, g, k⟩ x w hs.out hx.out).mono ?_
  rintro e' w' ⟨rfl, hb⟩
  exact ⟨_, _, _, _, _, _, _, _, rfl, rfl, hb⟩
theorem cells8 {w : World} {q : Nat} {t : TypeId} {v0 v1 v2 v3 v4 v5 v6 v7 : Value} (h : w.heap[q]? = some (.cells #[v0, v1, v2, v3, v4, v5, v6, v7] t (0, 0))) :
    (w.cell? ⟨q, 0, none⟩ = some v0 ∧ w.cell? ⟨q, 1, none⟩ = some v1 ∧ w.cell? ⟨q, 2, none⟩ = some v2 ∧ w.cell? ⟨q, 3, none⟩ = some v3 ∧ w.cell? ⟨q, 4, none⟩ = some v4 ∧ w.cell? ⟨q, 5, none⟩ = some v5 ∧ w.cell? ⟨q, 6, none⟩ = some v6 ∧ w.cell? ⟨q, 7, none⟩ = some v7) ∧
    (w.frozen? ⟨q, 0, none⟩ = false ∧ w.frozen? ⟨q, 1, none⟩ = false ∧ w.frozen? ⟨q, 2, none⟩ = false ∧ w.frozen? ⟨q, 3, none⟩ = false ∧ w.frozen? ⟨q, 4, none⟩ = false ∧ w.frozen? ⟨q, 5, none⟩ = false ∧ w.frozen? ⟨q, 6, none⟩ = false ∧ w.frozen? ⟨q, 7, none⟩ = false) := by
  refine ⟨⟨?_, ?_, ?_, ?_, ?_, ?_, ?_, ?_⟩, ?_⟩
  iterate 8 (rw [cell_of_row w q _ _ t (0, 0) h]; rfl)
  exact ⟨frozen_of_row w q 0 _ _ h, frozen_of_row w q 1 _ _ h, frozen_of_row w q 2 _ _ h, frozen_of_row w q 3 _ _ h, frozen_of_row w q 4 _ _ h, frozen_of_row w q 5 _ _ h, frozen_of_row w q 6 _ _ h, frozen_of_row w q 7 _ _ h⟩
def MixA (q : Nat) (ws : List Nat) (s : Sha.S8) (k : Nat) (w wr : World) : Prop :=
  wr.heap[q]? = some (.cells (s8v (Sha.rounds ws s k)) 60 (0, 0)) ∧ Below w.heap.size w wr
theorem MixA.next {q k : Nat} {ws : List Nat} {s S : Sha.S8} {w w' : World} {a b c d e f g h : Nat} (hb : Below w.heap.size w w') (hrow : w'.heap[q]? = some (.cells (s8v S) 60 (0, 0))) (hq : w.heap.size ≤ q) (he : Sha.rounds ws s (k + 1) = ⟨a, b, c, d, e, f, g, h⟩) :
    Hid (MixA q ws s (k + 1) w ((((((((w'.setCell ⟨q, 0, none⟩ (.int .u32 (a : Int))).setCell ⟨q, 1, none⟩ (.int .u32 (b : Int))).setCell ⟨q, 2, none⟩ (.int .u32 (c : Int))).setCell ⟨q, 3, none⟩ (.int .u32 (d : Int))).setCell ⟨q, 4, none⟩ (.int .u32 (e : Int))).setCell ⟨q, 5, none⟩ (.int .u32 (f : Int))).setCell ⟨q, 6, none⟩ (.int .u32 (g : Int))).setCell ⟨q, 7, none⟩ (.int .u32 (h : Int)))) := by
  refine ⟨?_, ?_⟩
  · rw [he]; exact set8 hrow _ _ _ _ _ _ _ _
  · exact (((((((hb.setCell hq _).setCell hq _).setCell hq _).setCell hq _).setCell hq _).setCell hq _).setCell hq _).setCell hq _
theorem MixA.drew' {q k : Nat} {ws : List Nat} {s : Sha.S8} {w wr : World} (h : Hid (MixA q ws s k w wr)) : Hid (MixA q ws s k w wr.drew) := ⟨h.out.1, h.out.2.drew⟩
def HDone (g : Nat) (f : Nat → Nat) (bl : List UInt8) (wait : Nat) (tot : Int) (w : World) (w' : World) : Prop := HAt w' g f bl wait tot ∧ w.grownBy w' (some g)
theorem HDone.drew {g : Nat} {f : Nat → Nat} {bl : List UInt8} {wait : Nat} {tot : Int} {w w' : World} (h : Hid (HDone g f bl wait tot w w')) : Hid (HDone g f bl wait tot w w'.drew) :=
  ⟨h.out.1.keep rfl, ⟨h.out.2.os, h.out.2.tape, h.out.2.output, h.out.2.size, h.out.2.block⟩⟩
theorem grown_set (W : World) (g k : Nat) (v : Value) : W.grownBy (W.setCell ⟨g, k, none⟩ v) (some g) :=
  ⟨rfl, rfl, rfl, by simp, fun j _ hj => heap_setCell_other W ⟨g, k, none⟩ j v (fun e => hj (by simp [e]))⟩
def partly (s t : Sha.S8) (k : Nat) (i : Nat) : Nat := if i < k then Sha.add (s.get i) (t.get i) else s.get i
theorem partly_all (s t : Sha.S8) (i : Nat) (h : i < 8) : (Sha.plus s t).get i = partly s t 8 i := by
  unfold partly; rw [if_pos h]
  rcases (by omega : i = 0 ∨ i = 1 ∨ i = 2 ∨ i = 3 ∨ i = 4 ∨ i = 5 ∨ i = 6 ∨ i = 7) with rfl | rfl | rfl | rfl | rfl | rfl | rfl | rfl <;> rfl
set_option maxRecDepth 100000 in
set_option maxHeartbeats 1600000 in
theorem mix_any (g : Nat) (s : Sha.S8) (bl : List UInt8) (wait : Nat) (tot : Int) (w : World) (hs : s.lt) (hbl : bl.length = 64) (hh : HAt w g s.get bl wait tot) (ht : Tab w) (hg : 2 ≤ g) :
    Calls Tryd.prog 47 #[.pointer (some ⟨g, 0, none⟩)] w fun e w' => e = .returned (.tuple #[]) ∧ Hid (HDone g (Sha.mix s bl).get bl wait tot w w') := by
  obtain ⟨Z, hZ⟩ : ∃ Z, blkZ = Z := ⟨_, rfl⟩
  have hz : ∀ w' : World, (zeroValue 61).run Tryd.prog w' = .ok (.agg Z) w' := fun w' => by rw [← hZ]; exact blkZ_zero w'
  have HZ := Lib.hid hZ
  obtain ⟨C, hC⟩ : ∃ C : List Value, (List.range 64).map (fun i => Value.int .u8 ((bl.getD i 0).toNat : Int)) = C := ⟨_, rfl⟩
  have HCL : Hid (C.length = 64) := by subst hC; show _ = _; rw [List.length_map, List.length_range]
  have HC : Hid (∀ i, i < 64 → C[i]? = some (.int .u8 ((bl.getD i 0).toNat : Int))) := by
    subst hC; intro i hi; rw [List.getElem?_map, List.getElem?_range hi]; rfl
  have HR : Hid (w.rangeAt g 8 C) := by
    intro j v hv
    have hj : j < 64 := by have := (List.getElem?_eq_some_iff.1 hv).1; rw [HCL.out] at this; exact this
    rw [hh.by_ hj, ← HC.out j hj, hv]
  have HH := Lib.hid hh
  have HT := Lib.hid ht
  have HS := Lib.hid hs
  have HBL := Lib.hid hbl
  have HG := Lib.hid hg
  clear hZ hC hh ht hs hbl hg
  go_enter Tryd.func47, Tryd.ntmps47
  go_wp2_with (refine wpList_load_mid rfl _ (.tmp 10) rfl g 8 rfl C _ HR.out Tryd.underlying64 rfl (by rw [HCL.out]; kernel_rfl) ?_)
  refine (sched_any bl C.toArray HBL.out (fun i hi => by rw [List.getElem?_toArray]; exact HC.out i hi) (by rw [List.size_toArray]; exact HCL.out) _).mono ?_
  rintro e w1 ⟨cs, rfl, hcs, hsch, hb1⟩
  have HCS := Lib.hid hcs
  have hg1 : g < w.heap.size := HH.out.lt
  have hs1 : w.heap.size ≤ w1.heap.size := hb1.out.size
  have HH1 : Hid (HAt (w1.alloc (.cells cs 61)) g s.get bl wait tot) :=
    (HH.out.below hb1.out hg1).keep (heap_alloc_old _ _ (by omega))
  have HSR : Hid ((w1.alloc (.cells cs 61)).rangeAt g 0 (s8v s).toList) := by
    intro j v hv
    rw [Nat.zero_add]
    have hj : j < 8 := by have := (List.getElem?_eq_some_iff.1 hv).1; simpa [s8v_size] using this
    rw [HH1.out.st hj, ← s8v_get s j hj, ← hv, Array.getElem?_toList]
  have E2 : Hid (((w1.alloc (.cells cs 61)).alloc (.cells #[.int .u32 0, .int .u32 0, .int .u32 0, .int .u32 0, .int .u32 0, .int .u32 0, .int .u32 0, .int .u32 0] 60)).setRow (w1.heap.size + 1) (s8v s) = (w1.alloc (.cells cs 61)).alloc (.cells (s8v s) 60)) := by
    have e := World.setRow_alloc_new (w1.alloc (.cells cs 61)) #[.int .u32 0, .int .u32 0, .int .u32 0, .int .u32 0, .int .u32 0, .int .u32 0, .int .u32 0, .int .u32 0] (s8v s) 60
    rw [show (w1.alloc (Obj.cells cs 61)).heap.size = w1.heap.size + 1 by simp] at e
    exact e
  have B1 := Lib.hid (heap_alloc_new w1 (.cells Z 61))
  have B2 := Lib.hid (boxB w1 (.cells cs 61) (.cells #[.int .u32 0, .int .u32 0, .int .u32 0, .int .u32 0, .int .u32 0, .int .u32 0, .int .u32 0, .int .u32 0] 60))
  have B3 := Lib.hid (heap_alloc2_old w1 (.cells cs 61) (.cells (s8v s) 60))
  have B4 := Lib.hid (boxB w1 (.cells cs 61) (.cells (s8v s) 60))
  clear hcs
  go_wp2_with (first
    | (refine wpList_store_row rfl _ (.tmp 2) (.tmp 12) rfl w1.heap.size cs rfl rfl _ _ B1.out (by rw [HCS.out]; kernel_rfl) (by rw [HCS.out, blkZ_size HZ.out]) (all_one HCS.out hsch.out) ?_; rw [World.setRow_alloc_new])
    | (refine wpList_load_mid rfl _ (.tmp 15) rfl g 0 rfl (s8v s).toList _ HSR.out Tryd.underlying60 rfl (by kernel_rfl) ?_)
    | (refine wpList_store_row rfl _ (.tmp 3) (.tmp 16) rfl (w1.heap.size + 1) (s8v s) rfl rfl _ _ B2.out (by kernel_rfl) rfl (all_one (n := 8) (f := s.get) rfl (s8v_get s)) ?_; rw [E2.out])
    | (refine wpList_load_row rfl _ (.tmp 2) rfl w1.heap.size rfl _ cs _ _ B3.out Tryd.underlying61 rfl (by rw [HCS.out]; kernel_rfl) ?_))
  have hA0 : Hid (MixA (w1.heap.size + 1) (Sha.wordsOf bl) s 0 w ((w1.alloc (.cells cs 61)).alloc (.cells (s8v s) 60))) :=
    ⟨B4.out, (hb1.out.alloc hs1 _).alloc (by simp; omega) _⟩
  have hq : w.heap.size ≤ w1.heap.size + 1 := by omega
  generalize ((w1.alloc (.cells cs 61)).alloc (.cells (s8v s) 60)) = w3 at *
  clear B1 B2 B3 B4 E2 HSR HH1 hb1 hs1
  generalize w1.heap.size + 1 = q at *
  generalize w1.heap.size = q0 at *
  obtain ⟨i0, hi, hz0, hz1, hz2⟩ := info_parts Tryd.info22
  go_loopw [18] (fun i wr => ∃ k : Nat, k ≤ 64 ∧ i = .int .i64 k ∧ Hid (MixA q (Sha.wordsOf bl) s k w wr)) (fun i _ => 64 - (intOf i).toNat)
  case atStart => exact ⟨0, by omega, rfl, hA0⟩
  case round =>
    obtain ⟨k, hk, rfl, hd⟩ := hrel
    by_cases hlt : k < 64
    · have hix := run_index_row (P := Tryd.prog) Tryd.underlying61 hi hz1 isAgg_u32 cs k _ hlt (hsch.out k hlt)
      have hkc := (HT.out.below hd.out.2 HT.out.1).2.2 k hlt
      have hsl : Hid (Sha.rounds (Sha.wordsOf bl) s k).lt := Sha.rounds_ok _ _ HS.out k
      have hrow := hd.out.1
      have hbel := Lib.hid hd.out.2
      have hnext : Hid (Sha.rounds (Sha.wordsOf bl) s (k + 1) = Sha.round (Sha.rounds (Sha.wordsOf bl) s k) (Sha.add (Sha.ks.getD k 0) (schW bl k))) := rfl
      have HY : Hid (Sha.add (Sha.ks.getD k 0) (schW bl k) < 4294967296) := Sha.add_lt _ _
      obtain ⟨y, hy⟩ : ∃ y, Sha.add (Sha.ks.getD k 0) (schW bl k) = y := ⟨_, rfl⟩
      have hsum1 : (((Sha.ks.getD k 0 : Nat) : Int) + ((schW bl k : Nat) : Int)) % 4294967296 = (y : Int) := by rw [← hy]; unfold Sha.add; omega
      have hsum2 : IntKind.u32.wrap (((Sha.ks.getD k 0 : Nat) : Int) + ((schW bl k : Nat) : Int)) = (y : Int) := by rw [IntKind.wrap_u32]; exact hsum1
      rw [hy] at HY hnext
      generalize Sha.ks.getD k 0 = kk at *
      generalize schW bl k = xx at *
      generalize Sha.rounds (Sha.wordsOf bl) s k = S at *
      obtain ⟨a, b, c, d, e, f, g', h'⟩ := S
      obtain ⟨⟨c0, c1, c2, c3, c4, c5, c6, c7⟩, -⟩ := cells8 hrow
      have HROW := Lib.hid hrow
      have HQ : Hid (q < wr.heap.size) := (Array.getElem?_eq_some_iff.1 hrow).1
      have k64 : (k : Int) < 64 := by omega
      clear hd hy hrow
      go_wp2_with fail
      go_region_with (go_at_call 49; (with_reducible refine (round_ok' a b c d e f g' h' y _ hsl HY).mono ?_); rintro e' w' ⟨a1, b1, c1', d1, e1, f1, g1, h1, rfl, hR, hB'⟩; have hrow' := (hB'.out.block q (by show q < wr.heap.size; exact HQ.out)).trans HROW.out; obtain ⟨⟨x0, x1, x2, x3, x4, x5, x6, x7⟩, ⟨z0, z1, z2, z3, z4, z5, z6, z7⟩⟩ := cells8 hrow'; have HROW' := Lib.hid hrow'; have HBW : Hid (Below w.heap.size w w') := (by first | exact hbel.out.drew.trans (hB'.out.mono hbel.out.size) | exact hbel.out.trans (hB'.out.mono hbel.out.size)); clear hrow' hB' c0 c1 c2 c3 c4 c5 c6 c7)
      all_goals
        have HD := MixA.next HBW.out HROW'.out hq (hnext.out.trans hR.out)
        clear x0 x1 x2 x3 x4 x5 x6 x7 z0 z1 z2 z3 z4 z5 z6 z7
        go_wp2_with fail
        go_roundw
        case rel => exact ⟨k + 1, by omega, by go_num, (by first | exact HD | exact MixA.drew' HD)⟩
        case measure => simp [intOf]; omega
    · obtain rfl : 64 = k := by omega
      have hrow := hd.out.1
      have HROW := Lib.hid hrow
      have HBEL := Lib.hid hd.out.2
      clear hd hrow
      go_wp2_with (refine wpList_load_row rfl _ (.tmp 3) rfl q rfl _ _ _ _ HROW.out Tryd.underlying60 rfl (by kernel_rfl) ?_)
      have hM : ∀ i, i < 8 → (Sha.mix s bl).get i = partly s (Sha.rounds (Sha.wordsOf bl) s 64) 8 i := fun i hi => partly_all _ _ i hi
      have HM := Lib.hid hM
      have hA1 : Hid (HDone g (partly s (Sha.rounds (Sha.wordsOf bl) s 64) 0) bl wait tot w wr) :=
        ⟨((HH.out.below HBEL.out hg1).fun_ fun i _ => by unfold partly; rw [if_neg (by omega)]), ⟨HBEL.out.os, HBEL.out.tape, HBEL.out.output, HBEL.out.size, fun j hj _ => HBEL.out.block j hj⟩⟩
      clear hM HROW HBEL hA0
      generalize Sha.rounds (Sha.wordsOf bl) s 64 = T at *
      obtain ⟨wo, rfl⟩ : ∃ wo : World, wo = wr := ⟨_, rfl⟩
      go_loopw [31] (fun i wr => ∃ k : Nat, k ≤ 8 ∧ i = .int .i64 k ∧ Hid (HDone g (partly s T k) bl wait tot w wr)) (fun i _ => 8 - (intOf i).toNat)
      case atStart => exact ⟨0, by omega, rfl, hA1⟩
      case round =>
        obtain ⟨k, hk, rfl, hd⟩ := hrel
        clear hA1
        by_cases hlt : k < 8
        · have hix := run_index_row (P := Tryd.prog) Tryd.underlying60 hi hz1 isAgg_u32 (s8v T) k _ hlt (s8v_get T k hlt)
          have hcl := hd.out.1.st hlt
          have e1 : partly s T k k = s.get k := by unfold partly; rw [if_neg (by omega)]
          rw [e1] at hcl
          have hfr := hd.out.1.frozen k
          have hD : Hid (HDone g (partly s T (k + 1)) bl wait tot w (wr.setCell ⟨g, k, none⟩ (.int .u32 ((((s.get k : Nat) : Int) + ((T.get k : Nat) : Int)) % 4294967296)))) := by
            rw [show (((s.get k : Nat) : Int) + ((T.get k : Nat) : Int)) % 4294967296 = ((Sha.add (s.get k) (T.get k) : Nat) : Int) by unfold Sha.add; omega]
            refine ⟨hd.out.1.store (by omega) fun i hi => ?_, hd.out.2.trans (grown_set _ _ _ _)⟩
            by_cases e : i = k
            · subst e; rw [if_pos rfl]; unfold hcell; rw [if_pos hlt]; unfold partly; rw [if_pos (by omega)]
            · rw [if_neg e]
              unfold hcell
              by_cases h8 : i < 8
              · rw [if_pos h8, if_pos h8]
                unfold partly
                by_cases h9 : i < k
                · rw [if_pos (by omega), if_pos h9]
                · rw [if_neg (by omega), if_neg h9]
              · rw [if_neg h8, if_neg h8]
          have k8 : (k : Int) < 8 := by omega
          clear hd e1
          generalize s.get k = sk at *
          generalize T.get k = tk at *
          go_wp2_with fail
          go_region
          all_goals
            clear hcl
            go_wp2_with fail
            go_roundw
            case rel => exact ⟨k + 1, by omega, by go_num, (by first | exact hD | exact HDone.drew hD)⟩
            case measure => simp [intOf]; omega
        · obtain rfl : 8 = k := by omega
          go_wp2_with fail
          go_end0
          exact ⟨rfl, hd.out.1.fun_ HM.out, hd.out.2⟩
end Go.Proofs.YtcgcmfhidolohaaDoor.Sh
