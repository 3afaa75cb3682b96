/- A fresh row of bytes; the xor of two bytes. -/
import Derived.Laws.CopyOwn
import Derived.Deep.RegionLaw
import Derived.Deep.LoopGhost
import Derived.Laws.NewBlocks
import Derived.BigQuiet
import Derived.Deep.QuietTactic
import Derived.Deep.RegionHeld3
import Derived.Test.YtmncpgfdpcckpaaGreatDoorZAQN
import Derived.Test.YtmncpgfdpcckpaaGreatDoorZEQN
set_option maxRecDepth 100000
namespace Go.Proofs.YtmncpgfdpcckpaaGreatDoor
open Go.RowKit
theorem made_list (v : Value) (n : Nat) : madeCells #[v] n = Array.replicate n v := by
 apply Array.toList_inj.1
 rw [toList_madeCells_one]; simp
theorem mk_bytes (c : Nat) (hc : c ≤ 1000000000) (w : World) : (Instr.makeSlice 22 (.int .i64 (c : Int)) (.int .i64 (c : Int))).run Tryz.prog w = .ok (.slice (some ⟨w.heap.size, 0, none⟩) c c) (w.alloc (.cells (Array.replicate c (.int .u8 0)) 5)) := by
 obtain ⟨i0, hi, hz0, hz1, hz2⟩ := info_parts Tryz.info5
 have := run_make (P := Tryz.prog) w 22 5 i0 (.int .u8 0) Tryz.underlying22 hi hz0 .i64 .i64 c c (by omega) (Int.le_refl _) (by rw [hz2]; omega) (by omega)
 simpa [hz1, Value.cells, made_list] using this
theorem xor_int (a b : UInt8) : bits .xor .u8 (a.toNat : Int) (b.toNat : Int) = ((a ^^^ b).toNat : Int) := by
 rw [u8_xor_nat _ _ (CrcM.b_lt _) (CrcM.b_lt _), ← UInt8.toNat_xor]
end Go.Proofs.YtmncpgfdpcckpaaGreatDoor
namespace Go.Proofs.YtmncpgfdpcckpaaGreatDoor
open Go.RowKit
def part (l : List UInt8) (s k : Nat) : List UInt8 := (l.drop (k * s)).take s
theorem piece_splice (l : List UInt8) (s k : Nat) : splice (List.replicate s (Value.int .u8 0)) 0 (bv (part l s k)) = bv (BlkM.piece l s k) := by
 simp [splice, BlkM.piece, part, bv]
end Go.Proofs.YtmncpgfdpcckpaaGreatDoor
namespace Go.Proofs.YtmncpgfdpcckpaaGreatDoor
open Go.RowKit
def joinF (es : List BRow) (len : Int) : List UInt8 := if len < 1 ∨ 512 < len then [] else if ((flat es).length : Int) < len then [] else (flat es).take len.toNat
def so (es : List BRow) (L k : Nat) : List UInt8 := (flat (es.take k)).take L
theorem so_le (es : List BRow) (L k : Nat) : (so es L k).length ≤ L := by simp [so]; omega
theorem so_next (es : List BRow) (L k : Nat) (r : BRow) (h : es[k]? = some r) (p : Nat) (hp : p = min r.l.length (L - (so es L k).length)) : so es L (k + 1) = so es L k ++ r.l.take p := by
 have hlk := (List.getElem?_eq_some_iff.1 h).1
 rw [List.getElem?_eq_getElem hlk] at h
 injection h with h
 have e1 : so es L (k + 1) = (flat (es.take k) ++ r.l).take L := by
  unfold so
  rw [List.take_succ_eq_append_getElem hlk, h, flat_snoc]
 have e2 : (so es L k).length = min L (flat (es.take k)).length := by unfold so; rw [List.length_take]
 rw [e1, List.take_append]
 show _ = (flat (es.take k)).take L ++ _
 congr 1
 rw [hp, e2]
 by_cases hy : r.l.length ≤ L - (flat (es.take k)).length
 ·rw [show min r.l.length (L - min L (flat (es.take k)).length) = r.l.length by omega, List.take_length, List.take_of_length_le hy]
 ·rw [show min r.l.length (L - min L (flat (es.take k)).length) = L - (flat (es.take k)).length by omega]
set_option maxHeartbeats 400000 in
theorem join_out (n cap : Nat) (A : Option Addr) (len : Int) (w : World) (h : len < 1 ∨ 512 < len) :
  Calls Tryz.prog 118 #[.slice A n cap, .int .i64 len] w (FreshBytes w.heap.size [] w) := by
 by_cases h1 : len < 1
 ·go_enter Tryz.func118, Tryz.ntmps118
  go_wp2
  go_ret
  exact ⟨none, 0, 0, rfl, rfl, World.ownsRow_nil _ _ _ _, Below.refl _ _⟩
 ·have h2 : 512 < len := by omega
  go_enter Tryz.func118, Tryz.ntmps118
  go_wp2
  go_ret
  exact ⟨none, 0, 0, rfl, rfl, World.ownsRow_nil _ _ _ _, Below.refl _ _⟩
set_option maxHeartbeats 800000 in
theorem join_in (B n cap : Nat) (A : Option Addr) (es : List BRow) (L : Nat) (w : World) (hl : Rows2 w B A n es) (h1 : 1 ≤ L) (h2 : L ≤ 512) (hn : n ≤ 1000000000000000000) (hB : B ≤ w.heap.size) (hbig : ∀ r ∈ es, r.n ≤ r.c ∧ r.c ≤ 9223372036854775807) :
  Calls Tryz.prog 118 #[.slice A n cap, .int .i64 (L : Int)] w (FreshBytes w.heap.size (joinF es L) w) := by
 obtain ⟨i0, hi, hz0, hz1, hz2⟩ := info_parts Tryz.info5
 have hN : es.length = n := by have := hl.1.1; simpa using this
 have HN := Lib.hid hN
 have HBIG := Lib.hid hbig
 clear hN hbig
 go_enter Tryz.func118, Tryz.ntmps118
 go_wp2_with (at_make; refine wpList_make_own _ rfl _ _ 22 rfl w.heap.size 5 i0 (.int .u8 0) 1 Tryz.underlying22 hi hz0 hz1 .i64 .i64 _ L rfl rfl (by omega) (by rw [hz2]; omega) (by unfold maxLen; omega) (by simp) ?_; intro w1 hown1 hg1)
 go_loopw [5, 18] (fun v i wr => ∃ k : Nat, k ≤ n ∧ i = .int .i64 k ∧ wr.ownsRow w.heap.size 5 1 v (so es L k).length (bv (so es L k)) ∧ Below w.heap.size w wr) (fun _ i _ => n - (intOf i).toNat)
 case atStart => exact ⟨0, by omega, rfl, by simpa [so, flat, bv] using hown1, (Below.refl _ _).grown hg1 (Nat.le_refl _) (by intro g h; nomatch h)⟩
 case round =>
  obtain ⟨k, hk, rfl, hown, hbk⟩ := hrel
  clear hown1 hg1
  have hsl := so_le es L k
  by_cases hlt : k < n
  ·obtain ⟨b, o, rfl, r, hr, hcell, hrow⟩ := (hl.below (hbk.mono hB)).at_ hlt
   obtain ⟨hrn, hrc⟩ := HBIG.out r (List.mem_of_getElem? hr)
   obtain ⟨p, hp⟩ : ∃ p, p = min r.n (L - (so es L k).length) := ⟨_, rfl⟩
   have hnx := Lib.hid (so_next es L k r hr p (by rw [hrow.blen]; exact hp))
   have hlk := (List.getElem?_eq_some_iff.1 hr).1
   generalize hQ : so es L k = Q at *
   have HQ := Lib.hid hQ
   clear hQ hr
   generalize hq : Q.length = q at *
   have HQL := Lib.hid hq
   clear hq
   obtain ⟨Aq, cq, rfl, _⟩ := own_slice hown
   have hpn : p ≤ r.n := by omega
   have hpl : p ≤ L - q := by omega
   have hmin : (if (L : Int) - (q : Int) < (r.n : Int) then (L : Int) - (q : Int) else (r.n : Int)) = (p : Int) := by split <;> omega
   clear hp
   have hpc : (p : Int) ≤ (r.c : Int) := by omega
   have hhead : Row wr B r.A p (bv (r.l.take p)) := by rw [← bv_take]; exact hrow.head hpn
   go_wp2_with (at_builtin; refine wpList_app rfl (.tmp 22) (.tmp 31) 22 rfl w.heap.size 5 i0 (.int .u8 0) 1 Tryz.underlying22 hi hz0 hz1 hz2 rfl _ _ _ rfl hown B r.A p r.c (bv (r.l.take p)) rfl hhead (bv_one _) (by unfold maxLen; omega) (by omega) hbk.size ?_; intro v2 w2 hown2 hg2 hat2)
   have hb2 := below_app hbk hbk.size hown (Nat.le_refl _) hg2
   have hown3 : w2.ownsRow w.heap.size 5 1 v2 (so es L (k + 1)).length (bv (so es L (k + 1))) := by
    rw [hnx.out, bv_append, List.length_append, HQL.out, List.length_take, hrow.blen, Nat.min_eq_left hpn]
    exact hown2
   clear hown hown2 hg2 hat2
   go_roundw
   case rel => exact ⟨k + 1, by omega, by go_num, hown3, hb2⟩
   case measure => simp [intOf]; omega
  ·have : k = n := by omega
   subst this
   have hall : so es L k = (flat es).take L := by unfold so; rw [show es.take k = es from List.take_of_length_le (by rw [HN.out]; omega)]
   rw [hall] at hown hsl
   have HJ : Hid (joinF es L = if (flat es).length < L then [] else (flat es).take L) := by
    show _ = _
    unfold joinF
    rw [if_neg (by omega)]
    by_cases hx : (flat es).length < L
    ·rw [if_pos hx, if_pos (by omega)]
    ·rw [if_neg hx, if_neg (by omega)]; rfl
   clear hall
   by_cases hx : (flat es).length < L
   ·have hq : ((flat es).take L).length < L := by rw [List.length_take]; omega
    obtain ⟨A4, c4, rfl, _⟩ := own_slice hown
    generalize hql : ((flat es).take L).length = q at *
    clear hql
    go_wp2
    go_ret
    refine ⟨none, 0, 0, rfl, ?_, ?_, hbk⟩
    ·rw [HJ.out, if_pos hx]; rfl
    ·rw [HJ.out, if_pos hx]; exact World.ownsRow_nil _ _ _ _
   ·have hq : ((flat es).take L).length = L := by rw [List.length_take]; omega
    rw [hq] at hown
    have HQ := Lib.hid hq
    clear hq hsl
    obtain ⟨A4, c4, rfl, _⟩ := own_slice hown
    go_wp2
    go_ret
    refine ⟨A4, L, c4, rfl, ?_, ?_, hbk⟩
    ·rw [HJ.out, if_neg hx]; exact HQ.out.symm
    ·rw [HJ.out, if_neg hx]; exact hown
end Go.Proofs.YtmncpgfdpcckpaaGreatDoor
namespace Go.Proofs.YtmncpgfdpcckpaaGreatDoor
open Go.RowKit
theorem join_at (g : Nat) (B n cap : Nat) (es : List BRow) (w : World) (hl : Rows2 w B (some ⟨g, 0, none⟩) n es) (hn : n ≤ 1000000000000000000) (hB : B ≤ w.heap.size) (hbig : ∀ r ∈ es, r.n ≤ r.c ∧ r.c ≤ 9223372036854775807) (L : Int) :
  Calls Tryz.prog 118 #[.slice (some ⟨g, 0, none⟩) n cap, .int .i64 L] w (FreshBytes w.heap.size (joinF es L) w) := by
 by_cases h : L < 1 ∨ 512 < L
 ·rw [show joinF es L = [] by unfold joinF; rw [if_pos h]]
  exact join_out n cap _ L w h
 ·obtain ⟨k, rfl⟩ : ∃ k : Nat, L = k := ⟨L.toNat, by omega⟩
  exact join_in B n cap _ es k w hl (by omega) (by omega) hn hB hbig
end Go.Proofs.YtmncpgfdpcckpaaGreatDoor
