/- digest.round: by contract. -/
import Derived.Laws.ResultCell
import Derived.Laws.Rows
import Derived.Deep.RegionWith
import Derived.BigQuiet
import Derived.Deep.QuietTactic
import Derived.Test.YtcgcmfhidolohaaDoorShaRotQ
namespace Go.Proofs.YtcgcmfhidolohaaDoor.Sh
open Go.RowKit
theorem boxB (w : World) (o o' : Obj) : ((w.alloc o).alloc o').heap[w.heap.size + 1]? = some o' := by
  have := heap_alloc_new (w.alloc o) o'
  simpa using this
theorem set8 {w : World} {g : Nat} {t : TypeId} {z0 z1 z2 z3 z4 z5 z6 z7 : Value} (h : w.heap[g]? = some (.cells #[z0, z1, z2, z3, z4, z5, z6, z7] t (0, 0))) (v0 v1 v2 v3 v4 v5 v6 v7 : Value) :
    ((((((((w.setCell ⟨g, 0, none⟩ v0).setCell ⟨g, 1, none⟩ v1).setCell ⟨g, 2, none⟩ v2).setCell ⟨g, 3, none⟩ v3).setCell ⟨g, 4, none⟩ v4).setCell ⟨g, 5, none⟩ v5).setCell ⟨g, 6, none⟩ v6).setCell ⟨g, 7, none⟩ v7).heap[g]? = some (.cells #[v0, v1, v2, v3, v4, v5, v6, v7] t (0, 0)) := by
  have h0 : (w.setCell ⟨g, 0, none⟩ v0).heap[g]? = some (.cells #[v0, z1, z2, z3, z4, z5, z6, z7] t (0, 0)) := heap_setCell_same _ g 0 _ t v0 h
  have h1 : ((w.setCell ⟨g, 0, none⟩ v0).setCell ⟨g, 1, none⟩ v1).heap[g]? = some (.cells #[v0, v1, z2, z3, z4, z5, z6, z7] t (0, 0)) := heap_setCell_same _ g 1 _ t v1 h0
  have h2 : (((w.setCell ⟨g, 0, none⟩ v0).setCell ⟨g, 1, none⟩ v1).setCell ⟨g, 2, none⟩ v2).heap[g]? = some (.cells #[v0, v1, v2, z3, z4, z5, z6, z7] t (0, 0)) := heap_setCell_same _ g 2 _ t v2 h1
  have h3 : ((((w.setCell ⟨g, 0, none⟩ v0).setCell ⟨g, 1, none⟩ v1).setCell ⟨g, 2, none⟩ v2).setCell ⟨g, 3, none⟩ v3).heap[g]? = some (.cells #[v0, v1, v2, v3, z4, z5, z6, z7] t (0, 0)) := heap_setCell_same _ g 3 _ t v3 h2
  have h4 : (((((w.setCell ⟨g, 0, none⟩ v0).setCell ⟨g, 1, none⟩ v1).setCell ⟨g, 2, none⟩ v2).setCell ⟨g, 3, none⟩ v3).setCell ⟨g, 4, none⟩ v4).heap[g]? = some (.cells #[v0, v1, v2, v3, v4, z5, z6, z7] t (0, 0)) := heap_setCell_same _ g 4 _ t v4 h3
  have h5 : ((((((w.setCell ⟨g, 0, none⟩ v0).setCell ⟨g, 1, none⟩ v1).setCell ⟨g, 2, none⟩ v2).setCell ⟨g, 3, none⟩ v3).setCell ⟨g, 4, none⟩ v4).setCell ⟨g, 5, none⟩ v5).heap[g]? = some (.cells #[v0, v1, v2, v3, v4, v5, z6, z7] t (0, 0)) := heap_setCell_same _ g 5 _ t v5 h4
  have h6 : (((((((w.setCell ⟨g, 0, none⟩ v0).setCell ⟨g, 1, none⟩ v1).setCell ⟨g, 2, none⟩ v2).setCell ⟨g, 3, none⟩ v3).setCell ⟨g, 4, none⟩ v4).setCell ⟨g, 5, none⟩ v5).setCell ⟨g, 6, none⟩ v6).heap[g]? = some (.cells #[v0, v1, v2, v3, v4, v5, v6, z7] t (0, 0)) := heap_setCell_same _ g 6 _ t v6 h5
  have h7 : ((((((((w.setCell ⟨g, 0, none⟩ v0).setCell ⟨g, 1, none⟩ v1).setCell ⟨g, 2, none⟩ v2).setCell ⟨g, 3, none⟩ v3).setCell ⟨g, 4, none⟩ v4).setCell ⟨g, 5, none⟩ v5).setCell ⟨g, 6, none⟩ v6).setCell ⟨g, 7, none⟩ v7).heap[g]? = some (.cells #[v0, v1, v2, v3, v4, v5, v6, v7] t (0, 0)) := heap_setCell_same _ g 7 _ t v7 h6
  exact h7
theorem big1_bits (x : Nat) (h : x < 4294967296) : bits .xor .u32 (bits .xor .u32 (Sha.rotr x 6 : Nat) (Sha.rotr x 11 : Nat)) (Sha.rotr x 25 : Nat) = ((Sha.big1 x : Nat) : Int) := by
  rw [u32_xor_nat _ _ (Sha.rotr_lt _ _ h) (Sha.rotr_lt _ _ h), u32_xor_nat _ _ (Sha.xor_lt _ _ (Sha.rotr_lt _ _ h) (Sha.rotr_lt _ _ h)) (Sha.rotr_lt _ _ h)]; rfl
theorem big0_bits (x : Nat) (h : x < 4294967296) : bits .xor .u32 (bits .xor .u32 (Sha.rotr x 2 : Nat) (Sha.rotr x 13 : Nat)) (Sha.rotr x 22 : Nat) = ((Sha.big0 x : Nat) : Int) := by
  rw [u32_xor_nat _ _ (Sha.rotr_lt _ _ h) (Sha.rotr_lt _ _ h), u32_xor_nat _ _ (Sha.xor_lt _ _ (Sha.rotr_lt _ _ h) (Sha.rotr_lt _ _ h)) (Sha.rotr_lt _ _ h)]; rfl
theorem not_bits (e : Nat) (h : e < 4294967296) : bits .xor .u32 IntKind.u32.max (e : Int) = ((Sha.not32 e : Nat) : Int) := by
  rw [show IntKind.u32.max = ((4294967295 : Nat) : Int) from rfl, u32_xor_nat 4294967295 e (by decide) h, Nat.xor_comm]; rfl
theorem choice_bits (e f g : Nat) (he : e < 4294967296) (hf : f < 4294967296) (hg : g < 4294967296) :
    bits .xor .u32 (bits .and .u32 (e : Int) (f : Int)) (bits .and .u32 (bits .xor .u32 IntKind.u32.max (e : Int)) (g : Int)) = ((Sha.choice e f g : Nat) : Int) := by
  rw [not_bits e he, u32_and_nat _ _ he hf, u32_and_nat _ _ (Sha.not_lt _ he) hg, u32_xor_nat _ _ (Sha.and_lt _ _ he) (Sha.and_lt _ _ (Sha.not_lt _ he))]; rfl
theorem major_bits (a b c : Nat) (ha : a < 4294967296) (hb : b < 4294967296) (hc : c < 4294967296) :
    bits .xor .u32 (bits .xor .u32 (bits .and .u32 (a : Int) (b : Int)) (bits .and .u32 (a : Int) (c : Int))) (bits .and .u32 (b : Int) (c : Int)) = ((Sha.major a b c : Nat) : Int) := by
  rw [u32_and_nat _ _ ha hb, u32_and_nat _ _ ha hc, u32_and_nat _ _ hb hc, u32_xor_nat _ _ (Sha.and_lt _ _ ha) (Sha.and_lt _ _ ha), u32_xor_nat _ _ (Sha.xor_lt _ _ (Sha.and_lt _ _ ha) (Sha.and_lt _ _ ha)) (Sha.and_lt _ _ hb)]; rfl
theorem sum6 (k p q x r s : Nat) : ((k : Int) + (p : Int) + (q : Int) + (x : Int) + ((r : Int) + (s : Int))) % 4294967296 = ((Sha.add (Sha.add (Sha.add (Sha.add k p) q) x) (Sha.add r s) : Nat) : Int) := by
  unfold Sha.add; omega
theorem sum5 (d k p q x : Nat) : ((d : Int) + ((k : Int) + (p : Int) + (q : Int) + (x : Int))) % 4294967296 = ((Sha.add d (Sha.add (Sha.add (Sha.add k p) q) x) : Nat) : Int) := by
  unfold Sha.add; omega
def s8v (s : Sha.S8) : Array Value := #[.int .u32 (s.a : Int), .int .u32 (s.b : Int), .int .u32 (s.c : Int), .int .u32 (s.d : Int), .int .u32 (s.e : Int), .int .u32 (s.f : Int), .int .u32 (s.g : Int), .int .u32 (s.h : Int)]
set_option maxRecDepth 100000 in
set_option maxHeartbeats 1600000 in
theorem round_walk (a b c d e f g k x : Nat) (w : World) (ha : a < 4294967296) (hb : b < 4294967296) (hc : c < 4294967296) (hd : d < 4294967296) (he : e < 4294967296) (hf : f < 4294967296) (hg : g < 4294967296) (hk : k < 4294967296) (hx : x < 4294967296) :
    Calls Tryd.prog 49 #[.agg #[.int .u32 (a : Int), .int .u32 (b : Int), .int .u32 (c : Int), .int .u32 (d : Int), .int .u32 (e : Int), .int .u32 (f : Int), .int .u32 (g : Int), .int .u32 (k : Int)], .int .u32 (x : Int)] w fun e' w' => e' = .returned (.agg (s8v (Sha.round ⟨a, b, c, d, e, f, g, k⟩ x))) ∧ Below w.heap.size w w' := by
  have HE := Lib.hid he
  have HA := Lib.hid ha
  have HB := Lib.hid hb
  have HC := Lib.hid hc
  have HF := Lib.hid hf
  have HG := Lib.hid hg
  clear ha hb hc hd he hf hg hk hx
  go_enter Tryd.func49, Tryd.ntmps49
  go_wp2_with fail
  go_quiet (fail)
  go_wp2_with (first
    | (go_at_call 50; with_reducible refine (right_6 _ _ HE).mono ?_; rintro e' w' ⟨rfl, rfl⟩)
    | (go_at_call 50; with_reducible refine (right_11 _ _ HE).mono ?_; rintro e' w' ⟨rfl, rfl⟩)
    | (go_at_call 50; with_reducible refine (right_25 _ _ HE).mono ?_; rintro e' w' ⟨rfl, rfl⟩)
    | (go_at_call 50; with_reducible refine (right_2 _ _ HA).mono ?_; rintro e' w' ⟨rfl, rfl⟩)
    | (go_at_call 50; with_reducible refine (right_13 _ _ HA).mono ?_; rintro e' w' ⟨rfl, rfl⟩)
    | (go_at_call 50; with_reducible refine (right_22 _ _ HA).mono ?_; rintro e' w' ⟨rfl, rfl⟩))
  have hbx := boxB w (.cells #[.int .u32 (a : Int), .int .u32 (b : Int), .int .u32 (c : Int), .int .u32 (d : Int), .int .u32 (e : Int), .int .u32 (f : Int), .int .u32 (g : Int), .int .u32 (k : Int)] 60) (.cells #[.int .u32 0, .int .u32 0, .int .u32 0, .int .u32 0, .int .u32 0, .int .u32 0, .int .u32 0, .int .u32 0] 60)
  have hrow := set8 (w := ((w.alloc _).alloc _).drewN nq) (by exact hbx)
  refine bodyPost_ret (results_cell_row rfl _ _ (w.heap.size + 1) _ _ (0, 0) _ rfl (hrow _ _ _ _ _ _ _ _) Tryd.underlying60 rfl (by kernel_rfl)) rfl ?_
  refine ⟨?_, ?_⟩
  · rw [big1_bits _ HE.out, big0_bits _ HA.out, choice_bits _ _ _ HE.out HF.out HG.out, major_bits _ _ _ HA.out HB.out HC.out]
    refine congrArg Ending.returned (congrArg Value.agg ?_)
    rw [sum6, sum5]
    rfl
  · have h0 : Below w.heap.size w (((w.alloc _).alloc _).drewN nq) := below_drewN (((Below.refl _ _).alloc (Nat.le_refl _) (.cells #[.int .u32 (a : Int), .int .u32 (b : Int), .int .u32 (c : Int), .int .u32 (d : Int), .int .u32 (e : Int), .int .u32 (f : Int), .int .u32 (g : Int), .int .u32 (k : Int)] 60)).alloc (by simp) (.cells #[.int .u32 0, .int .u32 0, .int .u32 0, .int .u32 0, .int .u32 0, .int .u32 0, .int .u32 0, .int .u32 0] 60)) nq
    exact (((((((h0.setCell (by simp) _).setCell (by simp) _).setCell (by simp) _).setCell (by simp) _).setCell (by simp) _).setCell (by simp) _).setCell (by simp) _).setCell (by simp) _
end Go.Proofs.YtcgcmfhidolohaaDoor.Sh
