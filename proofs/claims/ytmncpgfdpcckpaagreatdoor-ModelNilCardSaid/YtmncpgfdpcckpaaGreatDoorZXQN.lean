/- The reference's Count, JoinPieces: by contracts. -/
import Derived.BigQuiet
import Derived.Deep.QuietTactic
import Derived.Laws.CopyOwn
import Derived.Test.YtmncpgfdpcckpaaGreatDoorZQQN
set_option maxRecDepth 100000
namespace Go.Proofs.YtmncpgfdpcckpaaGreatDoor
open Go.RowKit
theorem r7count_any (a b : Int) (w : World) : Calls Tryz.prog 89 #[.int .i64 a, .int .i64 b] w fun e w' => e = .returned (.int .i64 (BlkM.count a b : Nat)) ∧ w = w' := by
 by_cases h : a < 1 ∨ 512 < a ∨ b < 1 ∨ 16 < b
 ·have hz : BlkM.count a b = 0 := by simp [BlkM.count, h]
  rw [hz]
  by_cases h1 : a < 1
  ·go_enter Tryz.func89, Tryz.ntmps89
   go_wp2_with fail
   go_ret
   exact ⟨rfl, rfl⟩
  by_cases h2 : 512 < a
  ·go_enter Tryz.func89, Tryz.ntmps89
   go_wp2_with fail
   go_ret
   exact ⟨rfl, rfl⟩
  by_cases h3 : b < 1
  ·go_enter Tryz.func89, Tryz.ntmps89
   go_wp2_with fail
   go_ret
   exact ⟨rfl, rfl⟩
  have h4 : 16 < b := by omega
  clear h
  go_enter Tryz.func89, Tryz.ntmps89
  go_wp2_with fail
  go_ret
  exact ⟨rfl, rfl⟩
 ·obtain ⟨q1, q2, _, _⟩ := quo_bounds a b (by omega) (by omega) (by omega) (by omega)
  have hc : BlkM.count a b = if 64 < (a + b - 1) / b then 0 else ((a + b - 1) / b).toNat := by unfold BlkM.count; rw [if_neg h]
  have h1 : ¬ a < 1 := by omega
  have h2 : a ≤ 512 := by omega
  have h3 : ¬ b < 1 := by omega
  have h4 : b ≤ 16 := by omega
  have h5 : ¬ b = 0 := by omega
  by_cases hq : 64 < (a + b - 1) / b
  ·rw [hc, if_pos hq]
   clear hc h
   go_enter Tryz.func89, Tryz.ntmps89
   go_wp2_with fail
   go_ret
   exact ⟨rfl, rfl⟩
  ·rw [hc, if_neg hq, Int.toNat_of_nonneg (by omega)]
   clear hc h
   go_enter Tryz.func89, Tryz.ntmps89
   go_wp2_with fail
   go_ret
   exact ⟨rfl, rfl⟩
end Go.Proofs.YtmncpgfdpcckpaaGreatDoor
namespace Go.Proofs.YtmncpgfdpcckpaaGreatDoor
open Go.RowKit
def Pc (W : World) (base : Nat) (v : Value) (r : BRow) : Prop :=
 ∃ g, r.A = some ⟨g, 0, none⟩ ∧ base ≤ g ∧ g < W.heap.size ∧ v.ownBlock ≠ some g ∧ W.heap[g]? = some (.cells (bv r.l).toArray 5 (0, 0)) ∧ r.n = r.l.length ∧ r.n ≤ r.c ∧ r.c ≤ 1000000
def R7W (l : List UInt8) (s base k : Nat) (v : Value) (wr : World) : Prop :=
 ∃ es : List BRow, es.map (·.l) = (List.range k).map (BlkM.piece l s) ∧ wr.ownsRow base 22 1 v k (es.map BRow.val) ∧ ∀ r ∈ es, Pc wr base v r
theorem Pc.row {W : World} {base : Nat} {v : Value} {r : BRow} (h : Pc W base v r) : Row W W.heap.size r.A r.n (bv r.l) := by
 obtain ⟨g, hA, _, hg, _, hh, hn, _⟩ := h
 refine ⟨by rw [bv_length, hn], fun _ => ⟨g, 0, hA, hg, fun i u hu => ?_⟩⟩
 rw [Nat.zero_add, cell_of_row _ _ i _ _ _ hh]
 simpa using hu
theorem R7W.next {l : List UInt8} {s base k : Nat} {v v' : Value} {wr W2 w3 : World} (G : Nat) (hG : wr.heap.size = G) (es : List BRow) (h1 : es.map (·.l) = (List.range k).map (BlkM.piece l s)) (h2 : wr.ownsRow base 22 1 v k (es.map BRow.val)) (h3 : ∀ r ∈ es, Pc wr base v r)
  (hb : Below G wr W2) (hp : W2.heap[G]? = some (.cells (bv (BlkM.piece l s k)).toArray 5 (0, 0))) (hs : s ≤ 1000000) (hbase : base ≤ G)
  (hown : w3.ownsRow base 22 1 v' (k + 1) (es.map BRow.val ++ [.slice (some ⟨G, 0, none⟩) s s])) (hg : W2.grownBy w3 v.ownBlock) (hv : v'.ownBlock = v.ownBlock ∨ v'.ownBlock = some W2.heap.size) : R7W l s base (k + 1) v' w3 := by
 have hG2 : G < W2.heap.size := by
  rcases Nat.lt_or_ge G W2.heap.size with h | h
  ·exact h
  ·rw [Array.getElem?_eq_none h] at hp; cases hp
 have hGv : v.ownBlock ≠ some G := fun e => by have := (h2.lt G e).2; omega
 have hnv : ∀ g, g < W2.heap.size → v.ownBlock ≠ some g → v'.ownBlock ≠ some g := by
  intro g hg1 hg2 e
  rcases hv with h | h
  ·exact hg2 (h.symm.trans e)
  ·rw [h] at e; injection e with e; omega
 refine ⟨es ++ [⟨some ⟨G, 0, none⟩, s, s, BlkM.piece l s k⟩], ?_, ?_, ?_⟩
 ·rw [List.map_append, h1, List.range_succ, List.map_append]; rfl
 ·simpa [BRow.val] using hown
 ·intro r hr
  rcases List.mem_append.1 hr with hr | hr
  ·obtain ⟨g, hA, a1, a2, a3, a4, a5⟩ := h3 r hr
   have a2' : g < G := by omega
   refine ⟨g, hA, a1, ?_, hnv g (by omega) a3, ?_, a5⟩
   ·have := hg.size; omega
   ·rw [hg.block g (by omega) (fun e => a3 e.symm), hb.block g (by omega)]; exact a4
  ·obtain rfl := List.mem_singleton.1 hr
   refine ⟨G, rfl, hbase, ?_, hnv G hG2 hGv, ?_, ?_, Nat.le_refl _, hs⟩
   ·have := hg.size; omega
   ·rw [hg.block G hG2 (fun e => hGv e.symm)]; exact hp
   ·show s = _; rw [BlkM.piece_length]
def R7SplitOk (l : List UInt8) (s c : Nat) (w : World) (e : Ending) (w' : World) : Prop :=
 ∃ A c' es, e = .returned (.slice A c c') ∧ Hid (Rows2 w' w'.heap.size A c es) ∧ Hid (es.map (·.l) = (List.range c).map (BlkM.piece l s)) ∧ Hid (Below w.heap.size w w')
set_option maxHeartbeats 1600000 in
theorem r7split_any (B n cap c : Nat) (s : Int) (A : Option Addr) (l : List UInt8) (w : World) (hl : Row w B A n (bv l)) (hnc : n ≤ cap) (hcap : cap ≤ 9223372036854775807) (hcN : BlkM.count n s = c) (hB : B ≤ w.heap.size) :
  Calls Tryz.prog 94 #[.slice A n cap, .int .i64 s] w (R7SplitOk l s.toNat c w) := by
 obtain ⟨i0, hi, hz0, hz1, hz2⟩ := info_parts Tryz.info22
 have HN := Lib.hid hcN
 have HBL := Lib.hid hl.blen
 have hc64 : c ≤ 64 := by
  rcases Nat.eq_zero_or_pos c with h | h
  ·omega
  ·obtain ⟨_, _, _, _, q5, _⟩ := count_facts n s c hcN h; exact q5
 clear hcN
 go_enter Tryz.func94, Tryz.ntmps94
 go_wp2_with (go_at_call 89; refine (r7count_any _ _ _).mono ?_; rintro e w' ⟨rfl, rfl⟩; rw [HN.out])
 go_loopw [5, 12] (fun v i wr => ∃ k : Nat, k ≤ c ∧ i = .int .i64 k ∧ Hid (R7W l s.toNat w.heap.size k v wr) ∧ Hid (Below w.heap.size w wr)) (fun _ i _ => c - (intOf i).toNat)
 case atStart => exact ⟨0, by omega, rfl, ⟨[], rfl, World.ownsRow_nil _ _ _ _, fun r hr => by cases hr⟩, Below.refl _ _⟩
 case round =>
  obtain ⟨k, hk, rfl, hR, hb⟩ := hrel
  obtain ⟨es, r1, r2, r3⟩ := hR.out
  obtain ⟨Av, cv, rfl, _⟩ := own_slice r2
  have hsz := hb.out.size
  by_cases hlt : k < c
  ·obtain ⟨q1, q2, q3, q4, q5, q6, q7⟩ := count_facts n s c HN.out (by omega)
   obtain ⟨z, rfl⟩ : ∃ z : Nat, s = z := ⟨s.toNat, by omega⟩
   rw [Int.toNat_natCast] at *
   have hm2 := mk_bytes z (by omega) wr
   obtain ⟨m, hm⟩ : ∃ m : Nat, m = k * z := ⟨_, rfl⟩
   have hmn : m < n := by
    have h1 : (k : Int) * (z : Int) ≤ ((c : Int) - 1) * (z : Int) := Int.mul_le_mul_of_nonneg_right (by omega) (by omega)
    rw [hm]
    have : ((k * z : Nat) : Int) < n := by push_cast; omega
    omega
   have hw : IntKind.i64.wrap ((k : Int) * (z : Int)) = (m : Int) := by
    rw [← Int.natCast_mul, ← hm]
    exact IntWalk.i64_in _ (by omega)
   have HM := Lib.hid hm
   obtain ⟨b, o, rfl, hbB, _⟩ := hl.byteAt (k := m) hmn
   have hcm : ¬ cap = m := by omega
   have hmc : (m : Int) ≤ cap := by omega
   have hmn' : (m : Int) ≤ n := by omega
   have hp : (part l z k).length = Nat.min (n - m) z := by
    simp only [part, List.length_take, List.length_drop, HBL.out, ← HM.out]
    show min z (n - m) = min (n - m) z
    omega
   have HP : Hid ((bv (part l z k)).length = Nat.min (n - m) z) := by rw [bv_length]; exact hp
   have hps : (part l z k).length ≤ z := by rw [hp]; exact Nat.min_le_right _ _
   have hpn : (part l z k).length ≤ n - m := by rw [hp]; exact Nat.min_le_left _ _
   have HPS := Lib.hid hps
   obtain ⟨W0, hW0⟩ : ∃ W0 : World, wr.alloc (.cells (Array.replicate z (.int .u8 0)) 5) = W0 := ⟨_, rfl⟩
   have hbW : Below wr.heap.size wr W0 := by rw [← hW0]; exact (Below.refl _ _).alloc (Nat.le_refl _) _
   have hhW : W0.heap[wr.heap.size]? = some (.cells (List.replicate z (.int .u8 0)).toArray 5 (0, 0)) := by
    rw [← hW0, heap_alloc_new]; simp
   have hsrc : Hid (∀ j v, (bv (part l z k))[j]? = some v → W0.cell? ((⟨b, o + m, none⟩ : Addr).add j) = some v) := by
    have h1 := (((hl.below (hb.out.mono hB)).below (hbW.mono (by omega))).sub (k := m) (m := n - m) (A' := some ⟨b, o + m, none⟩) (by omega) (fun b' o' e _ => by injection e with e; injection e with e1 e2; subst e1 e2; rfl))
    intro j v hv
    obtain ⟨b', o', e, _, hc⟩ := h1.2 (by omega)
    injection e with e
    injection e with e1 e2
    subst e1 e2
    rw [plain_add]
    refine hc j v ?_
    have hj := (List.getElem?_eq_some_iff.1 hv).1
    rw [bv_length] at hj
    rw [← hv, part, ← HM.out, ← bv_take, ← bv_drop, List.getElem?_take_of_lt (by omega), List.getElem?_take_of_lt (by omega)]
   have HW0 := Lib.hid hW0
   have HHW := Lib.hid hhW
   have HBW := Lib.hid hbW
   rw [hW0] at hm2
   clear hm q6 q7 hp hps hpn hW0 hhW hbW
   have hsm : ∀ w2 : World, Below wr.heap.size wr w2 → w.heap.size ≤ w2.heap.size := fun w2 h => Nat.le_trans hsz h.size
   have HSM := Lib.hid hsm
   have HR2 := Lib.hid r2
   clear hsm
   go_wp2_with (first | ((with_reducible show wpList _ _ _ _ _ _); refine wpList_copy_splice (o := ⟨some 23, _, _, _, _, _⟩) rfl (.tmp 17) (.tmp 22) 22 22 rfl 5 Tryz.underlying22 (by kernel_rfl) (some ⟨wr.heap.size, 0, none⟩) (some ⟨b, o + m, none⟩) z z (n - m) (cap - m) rfl (by simp [Act.eval, Act.put, hcm]) wr.heap.size 0 (List.replicate z (.int .u8 0)) 5 HHW.out (bv (part l z k)) HP.out (fun _ => ⟨rfl, _, rfl, hsrc.out⟩) (by rw [bv_length, List.length_replicate, Nat.zero_add]; exact HPS.out) (bv_one _) wr.heap.size wr HBW.out (Nat.le_refl _) ?_; intro w2 hcp hb2; clear hm2) | (at_builtin; refine wpList_app rfl (.tmp 24) (.tmp 26) 102 rfl w.heap.size 22 i0 (.slice none 0 0) 24 Tryz.underlying102 hi hz0 hz1 hz2 rfl _ k _ rfl (own_below HR2.out (hb2.alloc hb2.size _)) _ _ 1 1 _ rfl (row_new w2 _ _ _) (by intro u hu; simp at hu; subst hu; rfl) (by unfold maxLen; omega) (by omega) (HSM.out _ (hb2.alloc hb2.size _)) ?_; intro v3 w3 hown3 hg3 hat3))
   have hg4 : (w2.alloc (.cells #[.slice (some ⟨wr.heap.size, 0, none⟩) z z] 22)).grownBy w3 (Value.slice Av k cv).ownBlock := hg3
   have hat4 : v3.ownBlock = (Value.slice Av k cv).ownBlock ∨ v3.ownBlock = some (w2.alloc (.cells #[.slice (some ⟨wr.heap.size, 0, none⟩) z z] 22)).heap.size := hat3
   have hbA := hb2.alloc hb2.size (.cells #[.slice (some ⟨wr.heap.size, 0, none⟩) z z] 22)
   have hpc : w2.heap[wr.heap.size]? = some (.cells (bv (BlkM.piece l z k)).toArray 5 (0, 0)) := by
    have := hcp.out
    rw [piece_splice] at this
    exact this
   have hlt2 : wr.heap.size < w2.heap.size := by
    rcases Nat.lt_or_ge wr.heap.size w2.heap.size with h | h
    ·exact h
    ·rw [Array.getElem?_eq_none h] at hpc; cases hpc
   have hpA : (w2.alloc (.cells #[.slice (some ⟨wr.heap.size, 0, none⟩) z z] 22)).heap[wr.heap.size]? = some (.cells (bv (BlkM.piece l z k)).toArray 5 (0, 0)) :=
    (((Below.refl w2.heap.size w2).alloc (Nat.le_refl _) _).block _ hlt2).trans hpc
   have hnext : Hid (R7W l z w.heap.size (k + 1) v3 w3) := R7W.next wr.heap.size rfl es r1 HR2.out r3 hbA hpA (by omega) hsz hown3 hg4 hat4
   have hbn : Hid (Below w.heap.size w w3) := below_app (hb.out.trans (hbA.mono hsz)) (HSM.out _ hbA) (own_below HR2.out hbA) (Nat.le_refl _) hg4
   go_roundw
   case rel => exact ⟨k + 1, by omega, by go_num, hnext, hbn⟩
   case measure => simp [intOf]; omega
  ·obtain rfl : k = c := by omega
   go_wp2_with fail
   go_ret
   refine ⟨Av, cv, es, rfl, ?_, r1, hb⟩
   exact ⟨Row.of_own r2, fun r hr => (r3 r hr).row⟩
end Go.Proofs.YtmncpgfdpcckpaaGreatDoor
