/- The reference's First, List, Pack over rows of bools; layer 5's same: by contract. The reference's Bits, Unpack, Xor: by contract. -/
import Derived.Test.YtmncpgfdpcckpaaGreatDoorZBQN
import Derived.Test.YtmncpgfdpcckpaaGreatDoorZQQN
import Derived.Test.YtmncpgfdpcckpaaGreatDoorZAQN
import Derived.Test.YtmncpgfdpcckpaaGreatDoorZCQN
import Derived.Test.YtmncpgfdpcckpaaGreatDoorZLQN
set_option maxRecDepth 100000
namespace Go.Proofs.YtmncpgfdpcckpaaGreatDoor.Vc
open Go.RowKit
open VecM
def vb (X n : Nat) : List Value := (List.range n).map fun i => .bool (X.testBit i)
theorem vb_length (X n : Nat) : (vb X n).length = n := by simp [vb]
theorem vb_get (X n k : Nat) (h : k < n) : (vb X n)[k]? = some (.bool (X.testBit k)) := by simp [vb, h]
theorem L_snoc' (X n : Nat) : L X (n + 1) = L X n ++ (if X.testBit n then [n] else []) := by
 unfold L
 rw [List.range_succ, List.filter_append]
 congr 1
 cases h : X.testBit n <;> simp [h]
end Go.Proofs.YtmncpgfdpcckpaaGreatDoor.Vc
namespace Go.Proofs.YtmncpgfdpcckpaaGreatDoor.Vc
open Go.RowKit
open VecM
theorem infoBool : (Tryz.prog.info? 4).map (fun i => (i.zero, i.size, i.bytes)) = some (some (.bool false), 1, 1) := by kernel_rfl
theorem madeBool (m : Nat) (hm : m ≤ 1000000000) : ∀ w : World, (Instr.makeSlice 145 (.int .i64 (m : Int)) (.int .i64 (m : Int))).run Tryz.prog w = .ok (.slice (some ⟨w.heap.size, 0, none⟩) m m) (w.alloc (.cells (Array.replicate m (.bool false)) 4)) := by
 obtain ⟨i0, hi, hz0, hz1, hz2⟩ := info_parts infoBool
 intro w
 have h := run_make (P := Tryz.prog) w 145 4 i0 (.bool false) Tryz.underlying145 hi hz0 .i64 .i64 (m : Int) (m : Int) (by omega) (by omega) (by rw [hz2]; omega) (by omega)
 rw [hz1] at h
 have e : madeCells (Value.bool false).cells m = Array.replicate m (.bool false) := by
  apply Array.toList_inj.1
  rw [Array.toList_replicate]
  exact toList_madeCells_one (.bool false) m
 simpa [e] using h
theorem vb_zero (n : Nat) : vb 0 n = List.replicate n (.bool false) := by
 apply List.ext_getElem?
 intro j
 by_cases hj : j < n
 ·rw [vb_get _ _ _ hj, List.getElem?_replicate, if_pos hj, Nat.zero_testBit]
 ·rw [List.getElem?_eq_none (by rw [vb_length]; omega), List.getElem?_eq_none (by simp; omega)]
theorem vb_own (w : World) (n : Nat) (hn : n ≤ 1000000) : (w.alloc (.cells (Array.replicate n (.bool false)) 4)).ownsRow w.heap.size 4 1 (.slice (some ⟨w.heap.size, 0, none⟩) n n) n (vb 0 n) := by
 rw [vb_zero]
 have := own_lit (w := w) (base := w.heap.size) (g := w.heap.size) (n := n) (e := 4) (Array.replicate n (.bool false)) rfl (Nat.le_refl _) (by simp) (by unfold maxLen; omega)
 simpa using this
theorem vb_put (X n k : Nat) (on : Bool) (hk : k < n) : (vb X n).set k (.bool on) = vb (put X k on) n := by
 apply List.ext_getElem?
 intro j
 rw [List.getElem?_set]
 have hb : (put X k on).testBit j = if k = j then on else X.testBit j := by
  unfold put
  cases on with
  | true =>
   rw [if_pos rfl, Nat.testBit_or, Nat.testBit_two_pow]
   by_cases e : k = j
   ·simp [e]
   ·simp [e]
  | false =>
   rw [if_neg (by decide), clr_bit]
   by_cases e : k = j
   ·subst e; simp
   ·have e2 : j ≠ k := fun e' => e e'.symm
    simp [e, e2]
 by_cases hj : j < n
 ·rw [vb_get _ _ _ hj, vb_get _ _ _ hj, hb]
  by_cases e : k = j
  ·rw [if_pos e, if_pos (by rw [vb_length]; omega), if_pos e]
  ·rw [if_neg e, if_neg e]
 ·rw [List.getElem?_eq_none (by rw [vb_length]; omega), List.getElem?_eq_none (by rw [vb_length]; omega)]
  split
  ·rw [if_neg (by rw [vb_length]; omega)]
  ·rfl
theorem put_true (X k : Nat) : put X k true = X ||| 2 ^ k := by unfold put; rw [if_pos rfl]
def BitsOk (n X : Nat) (w : World) (e : Ending) (w' : World) : Prop :=
 ∃ g, e = .returned (.slice (some ⟨g, 0, none⟩) n n) ∧ Hid (w'.ownsRow w.heap.size 4 1 (.slice (some ⟨g, 0, none⟩) n n) n (vb X n)) ∧ Hid (Below w.heap.size w w')
set_option maxHeartbeats 1600000 in
theorem r1bits_any (n : Nat) (A : Option Addr) (m c B : Nat) (zs : List Int) (w : World) (hr : Row w B A m (nv zs)) (hB : B ≤ w.heap.size) (hm : m ≤ 4611686018427387904) (h : n ≤ 256) : Calls Tryz.prog 124 #[.int .i64 (n : Int), .slice A m c] w (BitsOk n (ofL n zs) w) := by
 have HR := Lib.hid hr
 have HL := Lib.hid (nv_length zs ▸ hr.1)
 have hmk := madeBool n (by omega)
 have HOW := Lib.hid (vb_own w n (by omega))
 clear hr
 go_enter Tryz.func124, Tryz.ntmps124
 go_wp2_with fail
 clear hmk
 go_loopw [12] (fun i wr => ∃ k : Nat, k ≤ m ∧ i = .int .i64 k ∧ Hid (wr.ownsRow w.heap.size 4 1 (.slice (some ⟨w.heap.size, 0, none⟩) n n) n (vb (ofL n (zs.take k)) n)) ∧ Hid (Below w.heap.size w wr)) (fun i _ => m - (intOf i).toNat)
 case atStart => exact ⟨0, by omega, rfl, HOW, (Below.refl _ _).alloc (Nat.le_refl _) _⟩
 case round =>
  obtain ⟨k, hk, rfl, hown, hbk⟩ := hrel
  by_cases hlt : k < m
  ·have hkl : k < zs.length := by rw [HL.out]; exact hlt
   obtain ⟨b, o, rfl, hbB, hc⟩ := (HR.out.below (hbk.out.mono hB)).cellAt hlt (nv_get zs k hkl)
   have HT := Lib.hid (ofL_take n zs k hkl)
   generalize zs[k]'hkl = z at *
   by_cases hz : 0 ≤ z ∧ z < (n : Int)
   ·obtain ⟨j, rfl⟩ : ∃ j : Nat, z = (j : Int) := ⟨z.toNat, by omega⟩
    have hj : j < n := by omega
    have hfz := hown.out.frozenAt j
    have hcs := (hown.out.cellAt j (by omega)).trans (vb_get (ofL n (zs.take k)) n j hj)
    have hst := Lib.hid ((hown.out.stored j (.bool true)).1)
    have hset := Lib.hid (vb_put (ofL n (zs.take k)) n j true hj)
    have HX : Hid (ofL n (zs.take (k + 1)) = put (ofL n (zs.take k)) j true) := by
     show _ = _
     rw [HT.out, put_true]; unfold setOne; rw [if_pos hz, Int.toNat_natCast]
    have hjn : (j : Int) < (n : Int) := by omega
    clear hz hown HT
    go_wp2_with fail
    go_roundw
    case rel => exact ⟨k + 1, by omega, by go_num, by rw [HX.out, ← hset.out]; exact hst, by exact hbk.out.setCell (Nat.le_refl _) _⟩
    case measure => simp [intOf]; omega
   ·have HX : Hid (ofL n (zs.take (k + 1)) = ofL n (zs.take k)) := by
     show _ = _
     rw [HT.out]; unfold setOne; rw [if_neg hz]
    rw [← HX.out] at hown
    by_cases hz0 : 0 ≤ z
    ·have hzn : ¬ z < (n : Int) := fun h => hz ⟨hz0, h⟩
     clear hz HT HX
     go_wp2_with fail
     go_roundw
     case rel => exact ⟨k + 1, by omega, by go_num, hown, hbk⟩
     case measure => simp [intOf]; omega
    ·clear hz HT HX
     go_wp2_with fail
     go_roundw
     case rel => exact ⟨k + 1, by omega, by go_num, hown, hbk⟩
     case measure => simp [intOf]; omega
  ·obtain rfl : m = k := by omega
   rw [List.take_of_length_le (by rw [HL.out]; omega)] at hown
   go_wp2_with fail
   go_ret
   exact ⟨_, rfl, hown, hbk⟩
end Go.Proofs.YtmncpgfdpcckpaaGreatDoor.Vc
namespace Go.Proofs.YtmncpgfdpcckpaaGreatDoor
open Go.RowKit
theorem fill_xor (a b : List UInt8) : fill a.length (fun j => a.getD j 0 ^^^ b.getD j 0) a.length = xorL a b := by
 apply List.ext_getElem?
 intro j
 by_cases h : j < a.length
 ·rw [fill_get _ _ _ _ h, xorL, xl_get a b _ j h]; simp [h]
 ·rw [List.getElem?_eq_none (by rw [fill_length]; omega), List.getElem?_eq_none (by rw [xorL_length]; omega)]
set_option maxHeartbeats 1600000 in
theorem xorBytes_any (B n c1 c2 : Nat) (A1 A2 : Option Addr) (a b : List UInt8) (w : World) (h1 : Row w B A1 n (bv a)) (h2 : Row w B A2 n (bv b)) (hn : n ≤ 1000000000) (hB : B ≤ w.heap.size) :
  Calls Tryz.prog 123 #[.slice A1 n c1, .slice A2 n c2] w (FreshBytes w.heap.size (xorL a b) w) := by
 have HA := Lib.hid h1.blen
 have hmk := mk_bytes n hn w
 go_enter Tryz.func123, Tryz.ntmps123
 go_wp2_with fail
 clear hmk
 go_loopw [12] (fun x wr => ∃ k : Nat, k ≤ n ∧ x = .int .i64 k ∧ Hid (wr.ownsRow w.heap.size 5 1 (.slice (some ⟨w.heap.size, 0, none⟩) n n) n (bv (fill n (fun j => a.getD j 0 ^^^ b.getD j 0) k))) ∧ Below w.heap.size w wr) (fun x _ => n - (intOf x).toNat)
 case atStart =>
  refine ⟨0, by omega, rfl, ?_, (Below.refl _ _).alloc (Nat.le_refl _) _⟩
  show World.ownsRow _ _ _ _ _ _ _
  rw [fill_zero]
  have := own_lit (w := w) (base := w.heap.size) (g := w.heap.size) (n := n) (e := 5) (Array.replicate n (.int .u8 0)) rfl (Nat.le_refl _) (by simp) (by unfold maxLen; omega)
  simpa [bv] using this
 case round =>
  obtain ⟨k, hk, rfl, hown, hbk⟩ := hrel
  by_cases hlt : k < n
  ·obtain ⟨b1, o1, rfl, hb1, hl1, hc1⟩ := (h1.below (hbk.mono hB)).byteAt hlt
   obtain ⟨b2, o2, rfl, hb2, hl2, hc2⟩ := (h2.below (hbk.mono hB)).byteAt hlt
   have hfz := hown.out.frozenAt k
   have hcs := (hown.out.cellAt k (by omega)).trans (bv_getD _ k (by rw [fill_length]; exact hlt))
   have hst := Lib.hid ((hown.out.stored k (.int .u8 ((a.getD k 0 ^^^ b.getD k 0).toNat : Int))).1)
   have hset := Lib.hid (bv_fill_set n (fun j => a.getD j 0 ^^^ b.getD j 0) k hlt)
   have hx : a[k] = a.getD k 0 := by simp [List.getD, hl1]
   have hy : b[k] = b.getD k 0 := by simp [List.getD, hl2]
   have hxor := xor_int (a.getD k 0) (b.getD k 0)
   rw [hx] at hc1
   rw [hy] at hc2
   have hki : (k : Int) < (n : Int) := by omega
   clear hx hy
   generalize hX : a.getD k 0 = x at *
   generalize hY : b.getD k 0 = y at *
   have HX := Lib.hid hX
   have HY := Lib.hid hY
   clear hX hY
   go_wp2_with fail
   go_region
   all_goals
    go_wp2_with fail
    go_roundw
    case rel => exact ⟨k + 1, by omega, by go_num, by show World.ownsRow _ _ _ _ _ _ _; rw [← hset.out]; exact hst.out, (hbk.setCell (Nat.le_refl _) _).drew⟩
    case measure => simp [intOf]; omega
  ·obtain rfl : n = k := by omega
   have hfin := hown.out
   rw [show fill n (fun j => a.getD j 0 ^^^ b.getD j 0) n = xorL a b by rw [← fill_xor, HA.out]] at hfin
   have HF := Lib.hid hfin
   clear hfin
   go_wp2_with fail
   go_ret
   exact ⟨_, n, n, rfl, by show n = _; rw [xorL_length]; exact HA.out.symm, HF.out, hbk⟩
end Go.Proofs.YtmncpgfdpcckpaaGreatDoor
namespace Go.Proofs.YtmncpgfdpcckpaaGreatDoor
open Go.RowKit
open RdM
theorem r1nx_any (g : Nat) (x : Int) (w : World) (hs : r1Src w g x) (h0 : 0 ≤ x) (h1 : x ≤ 4294967295) : Calls Tryz.prog 127 #[.pointer (some ⟨g, 0, none⟩)] w fun e w' => e = .returned (.int .u32 (mx (sh x))) ∧ w' = w.setCell ⟨g, 0, none⟩ (.int .u32 (sh x)) := by
 have hc : w.cell? ⟨g, 0, none⟩ = some (.int .u32 x) := by rw [cell_of_row w g 0 _ _ _ hs]; rfl
 have hf : w.frozen? ⟨g, 0, none⟩ = false := frozen_of_row w g 0 _ _ hs
 have hsz : (Tryz.prog.info? 32).map (·.size) = some 1 := by kernel_rfl
 clear hs
 by_cases hx : x = 0
 ·subst hx
  have hb := Lib.hid (sh_bounds 0)
  have HB : Hid (bits BinOp.xor IntKind.u32 (bits BinOp.xor IntKind.u32 (bits BinOp.xor IntKind.u32 1 8192) (bits BinOp.xor IntKind.u32 1 8192 / 131072)) (bits BinOp.xor IntKind.u32 (bits BinOp.xor IntKind.u32 1 8192) (bits BinOp.xor IntKind.u32 1 8192 / 131072) * 32 % 4294967296) = sh 0) := rfl
  go_enter Tryz.func127, Tryz.ntmps127
  go_wp2_with fail
  refine (r1mix_any _ ?_ ?_ _).mono ?_
  ·rw [HB.out]; exact hb.out.1
  ·rw [HB.out]; exact hb.out.2
  rintro e w' ⟨rfl, rfl⟩
  rw [HB.out]
  go_wp2_with fail
  go_ret
  exact ⟨rfl, rfl⟩
 ·have hb := Lib.hid (sh_bounds x)
  have HB : Hid (bits BinOp.xor IntKind.u32 (bits BinOp.xor IntKind.u32 (bits BinOp.xor IntKind.u32 x (x * 8192 % 4294967296)) (bits BinOp.xor IntKind.u32 x (x * 8192 % 4294967296) / 131072)) (bits BinOp.xor IntKind.u32 (bits BinOp.xor IntKind.u32 x (x * 8192 % 4294967296)) (bits BinOp.xor IntKind.u32 x (x * 8192 % 4294967296) / 131072) * 32 % 4294967296) = sh x) := by
   show _ = _
   unfold sh
   rw [if_neg hx]
  go_enter Tryz.func127, Tryz.ntmps127
  go_wp2_with fail
  refine (r1mix_any _ ?_ ?_ _).mono ?_
  ·rw [HB.out]; exact hb.out.1
  ·rw [HB.out]; exact hb.out.2
  rintro e w' ⟨rfl, rfl⟩
  rw [HB.out]
  go_wp2_with fail
  go_ret
  exact ⟨rfl, rfl⟩
end Go.Proofs.YtmncpgfdpcckpaaGreatDoor
namespace Go.Proofs.YtmncpgfdpcckpaaGreatDoor.Pc
open Go.RowKit
open VecM RdM Vc Sp
def RSumOk (X z : Nat) (ls : List (List UInt8)) (k : Nat) (w : World) (e : Ending) (w' : World) : Prop :=
 ∃ g c, e = .returned (.slice (some ⟨g, 0, none⟩) z c) ∧ Hid (w'.ownsRow w.heap.size 5 1 (.slice (some ⟨g, 0, none⟩) z c) z (bv (sumR X z ls k))) ∧ Hid (Below w.heap.size w w')
set_option maxHeartbeats 1600000 in
theorem rsum_any (X n cx z nl c B : Nat) (Ax A : Option Addr) (es : List BRow) (w : World) (hx : Row w B Ax n (vb X n)) (hl : Rows2 w B A nl es) (hes : ∀ r ∈ es, r.n = z) (hnm : nl ≤ n) (hn : n ≤ 80) (hz : 1 ≤ z ∧ z ≤ 16) (hB : B ≤ w.heap.size) :
  Calls Tryz.prog 91 #[.slice Ax n cx, .slice A nl c, .int .i64 (z : Int)] w (RSumOk X z (es.map (·.l)) nl w) := by
 have HX := Lib.hid hx
 have HL := Lib.hid hl
 have HES := Lib.hid hes
 have HBB := Lib.hid hB
 have hmk := mk_bytes z (by omega) w
 have hn80 : (n : Int) ≤ 80 := by omega
 have HZ := Lib.hid hz
 clear hx hl hes hB hz
 go_enter Tryz.func91, Tryz.ntmps91
 go_wp2_with fail
 clear hmk
 have HOW : Hid ((w.alloc (.cells (Array.replicate z (.int .u8 0)) 5)).ownsRow w.heap.size 5 1 (.slice (some ⟨w.heap.size, 0, none⟩) z z) z (bv (sumR X z (es.map (·.l)) (min 0 nl)))) := by
  show World.ownsRow _ _ _ _ _ _ _
  have := own_lit (w := w) (base := w.heap.size) (g := w.heap.size) (n := z) (e := 5) (Array.replicate z (.int .u8 0)) rfl (Nat.le_refl _) (by simp) (by have := HZ.out; unfold maxLen; omega)
  rw [show min 0 nl = 0 by omega]
  simpa [bv, sumR] using this
 have HAL : Hid (Below w.heap.size w (w.alloc (.cells (Array.replicate z (.int .u8 0)) 5))) := (Below.refl _ _).alloc (Nat.le_refl _) _
 generalize (w.alloc (.cells (Array.replicate z (.int .u8 0)) 5)) = w2 at *
 obtain ⟨G, hG⟩ : ∃ G, w.heap.size = G := ⟨_, rfl⟩
 have HG := Lib.hid hG
 rw [hG] at HOW ⊢
 clear hG
 go_loopw [7, 14] (fun v i wr => ∃ (k g c2 : Nat), k ≤ n ∧ v = .slice (some ⟨g, 0, none⟩) z c2 ∧ i = .int .i64 k ∧ Hid (wr.ownsRow G 5 1 (.slice (some ⟨g, 0, none⟩) z c2) z (bv (sumR X z (es.map (·.l)) (min k nl)))) ∧ Hid (Below w.heap.size w wr)) (fun _ i _ => n - (intOf i).toNat)
 case atStart => exact ⟨0, G, z, by omega, rfl, rfl, HOW, HAL⟩
 case round =>
  obtain ⟨k, g, c2, hk, rfl, rfl, hown, hbk⟩ := hrel
  clear HOW HAL
  by_cases hlt : k < n
  ·obtain ⟨bx, ox, rfl, _, hcx⟩ := (HX.out.below (hbk.out.mono HBB.out)).cellAt hlt (vb_get X n k hlt)
   have hki : (k : Int) < (n : Int) := by omega
   have hGw : G ≤ wr.heap.size := by have := HG.out; have := hbk.out.size; omega
   have HGW := Lib.hid hGw
   obtain ⟨T, hT⟩ : ∃ T, X.testBit k = T := ⟨_, rfl⟩
   rw [hT] at hcx
   have HT := Lib.hid hT
   clear hT hGw
   cases T with
   | false =>
    have hnext : sumR X z (es.map (·.l)) (min (k + 1) nl) = sumR X z (es.map (·.l)) (min k nl) := by
     by_cases h : k < nl
     ·rw [show min (k + 1) nl = k + 1 by omega, show min k nl = k by omega]
      show (if X.testBit k then _ else _) = _
      rw [HT.out]; rfl
     ·rw [show min (k + 1) nl = min k nl by omega]
    rw [← hnext] at hown
    clear hnext
    go_wp2_with fail
    go_roundw
    case rel => exact ⟨k + 1, g, c2, by omega, rfl, by go_num, hown, hbk⟩
    case measure => simp [intOf]; omega
   | true =>
    by_cases h : k < nl
    ·obtain ⟨b, o, rfl, r, hr, hcell, hrow⟩ := (HL.out.below (hbk.out.mono HBB.out)).at_ h
     have hrn := HES.out r (List.mem_of_getElem? hr)
     rw [hrn] at hrow hcell
     have hld : (es.map (·.l)).getD k [] = r.l := by simp [List.getD, hr]
     have hki2 : (k : Int) < (nl : Int) := by omega
     have hnext : xorL (sumR X z (es.map (·.l)) (min k nl)) r.l = sumR X z (es.map (·.l)) (min (k + 1) nl) := by
      rw [show min (k + 1) nl = k + 1 by omega, show min k nl = k by omega]
      show _ = (if X.testBit k then _ else _)
      rw [HT.out, hld]; rfl
     have HXB := Lib.hid (xorBytes_any wr.heap.size z c2 r.c (some ⟨g, 0, none⟩) r.A (sumR X z (es.map (·.l)) (min k nl)) r.l wr (Row.of_own hown.out) (hrow.more (Nat.le_trans HBB.out hbk.out.size)) (by have := HZ.out; omega) (Nat.le_refl _))
     rw [hnext] at HXB
     have HLN : Hid ((sumR X z (es.map (·.l)) (min (k + 1) nl)).length = z) := Lib.hid (sumR_length _ _ _ _)
     clear hnext hr hrow hrn hld hown
     go_wp2_with fail
     refine HXB.out.mono ?_
     rintro e w5 ⟨A5, m5, c5, rfl, hm5, hown5, hb5⟩
     have hm5' : m5 = z := hm5.out.trans HLN.out
     subst hm5'
     obtain ⟨g5, c5', hv5, hg5, _⟩ := hown5.form (by have := HZ.out; omega)
     injection hv5 with e1 e2 e3
     subst e1 e3
     have HO5 := Lib.hid (own_base hown5 HGW.out)
     have hbk5 := Lib.hid (hbk.out.trans (hb5.mono (by rw [HG.out]; exact HGW.out)))
     clear HXB hcell hcx hb5 hbk hown5 hm5 hg5
     go_wp2_with fail
     go_roundw
     case rel => exact ⟨k + 1, g5, c5, by omega, rfl, by go_num, HO5, hbk5⟩
     case measure => simp [intOf]; omega
    ·have hki2 : ¬ (k : Int) < (nl : Int) := by omega
     rw [show min k nl = min (k + 1) nl by omega] at hown
     go_wp2_with fail
     go_roundw
     case rel => exact ⟨k + 1, g, c2, by omega, rfl, by go_num, hown, hbk⟩
     case measure => simp [intOf]; omega
  ·obtain rfl : n = k := by omega
   clear hlt
   rw [show min n nl = nl by omega] at hown
   go_wp2_with fail
   go_ret
   exact ⟨g, c2, rfl, by rw [HG.out]; exact hown, hbk⟩
end Go.Proofs.YtmncpgfdpcckpaaGreatDoor.Pc
namespace Go.Proofs.YtmncpgfdpcckpaaGreatDoor.Pc
open Go.RowKit
open VecM RdM Vc Sp
theorem and_one_u32 (x : Int) (h0 : 0 ≤ x) (h1 : x ≤ 4294967295) : bits .and .u32 x 1 = x % 2 := by
 obtain ⟨n, rfl⟩ : ∃ n : Nat, x = (n : Int) := ⟨x.toNat, by omega⟩
 have := u32_and_nat n 1 (by omega) (by decide)
 rw [Nat.and_one_is_mod] at this
 exact this.trans (by omega)
theorem infoBools : (Tryz.prog.info? 145).map (fun i => (i.zero, i.size, i.bytes)) = some (some (.slice none 0 0), 1, 24) := by kernel_rfl
theorem rpmay2_any (s K P Z : Int) (w : World) : Calls Tryz.prog 90 #[.agg #[.int .u32 s, .int .i64 K, .int .i64 P, .int .i64 Z]] w fun e w' => e = .returned (.bool (mayB K P Z)) ∧ Below w.heap.size w w' := by
 go_enter Tryz.func90, Tryz.ntmps90
 go_wp2_with fail
 all_goals (go_ret; exact ⟨by simp [mayB, *]; try omega, (Below.refl _ _).alloc (Nat.le_refl _) _⟩)
def parZ (x0 : Int) (b : Nat) : Nat → List Int
 | 0 => [(b : Int)]
 | k + 1 => if odd (mx (shk x0 (k + 1))) then parZ x0 b k ++ [(k : Int)] else parZ x0 b k
theorem parZ_mem (x0 : Int) (b : Nat) (j : Nat) : ∀ k, (j : Int) ∈ parZ x0 b k ↔ j = b ∨ (j < k ∧ odd (mx (shk x0 (j + 1))) = true)
 | 0 => by simp [parZ]; omega
 | k + 1 => by
  have ih := parZ_mem x0 b j k
  unfold parZ
  split
  ·rename_i h
   rw [List.mem_append, ih]
   constructor
   ·rintro (h1 | h1)
    ·rcases h1 with h1 | h1
     ·exact .inl h1
     ·exact .inr ⟨by omega, h1.2⟩
    ·have e : (j : Int) = (k : Int) := by simpa using h1
     have e : j = k := by omega
     subst e
     exact .inr ⟨by omega, h⟩
   ·rintro (h1 | h1)
    ·exact .inl (.inl h1)
    ·by_cases e : j = k
     ·subst e; exact .inr (by simp)
     ·exact .inl (.inr ⟨by omega, h1.2⟩)
  ·rename_i h
   rw [ih]
   constructor
   ·rintro (h1 | h1)
    ·exact .inl h1
    ·exact .inr ⟨by omega, h1.2⟩
   ·rintro (h1 | h1)
    ·exact .inl h1
    ·by_cases e : j = k
     ·subst e; exact absurd h1.2 h
     ·exact .inr ⟨by omega, h1.2⟩
theorem ofL_parZ (x0 : Int) {b K n : Nat} (hb : K ≤ b) (hn : b < n) : ofL n (parZ x0 b K) = parX x0 b K := by
 apply Nat.eq_of_testBit_eq
 intro j
 rw [ofL_bit, parX_bit]
 by_cases hj : j < K
 ·rw [if_pos hj]
  have h1 : j < n := by omega
  rw [decide_eq_true h1, Bool.true_and]
  have h2 := parZ_mem x0 b j K
  cases ho : odd (mx (shk x0 (j + 1))) with
  | true => exact decide_eq_true (h2.2 (.inr ⟨hj, ho⟩))
  | false =>
   refine decide_eq_false fun h => ?_
   rcases h2.1 h with h | h
   ·omega
   ·rw [ho] at h; cases h.2
 ·rw [if_neg hj]
  have h2 := parZ_mem x0 b j K
  by_cases e : b = j
  ·subst e
   rw [decide_eq_true hn, decide_eq_true (h2.2 (.inl rfl)), decide_eq_true rfl]; rfl
  ·rw [decide_eq_false e]
   have : ¬ (j : Int) ∈ parZ x0 b K := fun h => by
    rcases h2.1 h with h | h
    ·exact e h.symm
    ·exact hj h.1
   rw [decide_eq_false this, Bool.and_false]
def bval (n : Nat) (r : Nat × Nat) : Value := .slice (some ⟨r.1, 0, none⟩) n n
def PB (n : Nat) (Xs : List Nat) (base : Nat) (v : Value) (wr : World) : Prop :=
 ∃ es : List (Nat × Nat), es.map (·.2) = Xs ∧ wr.ownsRow base 145 1 v Xs.length (es.map (bval n)) ∧ ∀ r ∈ es, v.ownBlock ≠ some r.1 ∧ wr.ownsRow base 4 1 (.slice (some ⟨r.1, 0, none⟩) n n) n (vb r.2 n)
theorem PB.mono {n : Nat} {Xs : List Nat} {base base' : Nat} {v : Value} {w : World} (h : PB n Xs base v w) (hb : base' ≤ base) : PB n Xs base' v w := by
 obtain ⟨es, h1, h2, h3⟩ := h
 exact ⟨es, h1, own_base h2 hb, fun r hr => ⟨(h3 r hr).1, own_base (h3 r hr).2 hb⟩⟩
theorem PB.next {n : Nat} {Xs : List Nat} {base g0 X : Nat} {v v' : Value} {W2 w3 : World} {es : List (Nat × Nat)} (h1 : es.map (·.2) = Xs) (_h2 : W2.ownsRow base 145 1 v Xs.length (es.map (bval n))) (h3 : ∀ r ∈ es, v.ownBlock ≠ some r.1 ∧ W2.ownsRow base 4 1 (.slice (some ⟨r.1, 0, none⟩) n n) n (vb r.2 n))
  (hv0 : v.ownBlock ≠ some g0) (ho : W2.ownsRow base 4 1 (.slice (some ⟨g0, 0, none⟩) n n) n (vb X n))
  (hown : w3.ownsRow base 145 1 v' (Xs.length + 1) (es.map (bval n) ++ [.slice (some ⟨g0, 0, none⟩) n n])) (hg : W2.grownBy w3 v.ownBlock) (hv : v'.ownBlock = v.ownBlock ∨ v'.ownBlock = some W2.heap.size) : PB n (Xs ++ [X]) base v' w3 := by
 have hmv : ∀ (g Y : Nat), v.ownBlock ≠ some g → W2.ownsRow base 4 1 (.slice (some ⟨g, 0, none⟩) n n) n (vb Y n) → v'.ownBlock ≠ some g ∧ w3.ownsRow base 4 1 (.slice (some ⟨g, 0, none⟩) n n) n (vb Y n) := by
  intro g Y b c
  have hlt : g < W2.heap.size := (c.lt g rfl).2
  refine ⟨?_, ?_⟩
  ·intro e
   rcases hv with h | h
   ·exact b (h.symm.trans e)
   ·rw [h] at e; injection e with e; omega
  ·refine ⟨c.1, ?_⟩
   rcases c.2 with h0 | ⟨g', cap, cur, e1, hbg, hgb, r3⟩
   ·exact absurd h0.1 (by intro e; cases e)
   ·refine .inr ⟨g', cap, cur, e1, hbg, ?_, r3⟩
    injection e1 with e1
    injection e1 with e1
    injection e1 with e1
    subst e1
    rw [hg.block _ hlt (fun e => b e.symm)]; exact hgb
 refine ⟨es ++ [(g0, X)], ?_, ?_, ?_⟩
 ·rw [List.map_append, h1]; rfl
 ·rw [List.length_append]; simpa [bval] using hown
 ·intro r hr
  rcases List.mem_append.1 hr with hr | hr
  ·exact hmv r.1 r.2 (h3 r hr).1 (h3 r hr).2
  ·obtain rfl := List.mem_singleton.1 hr
   exact hmv g0 X hv0 ho
theorem PB.app {n : Nat} {Xs : List Nat} {base g0 X k : Nat} {v v' : Value} {wr W2 w5 : World} {es : List (Nat × Nat)} (hk : Xs.length = k) (h1 : es.map (·.2) = Xs) (h2 : wr.ownsRow base 145 1 v k (es.map (bval n))) (h3 : ∀ r ∈ es, v.ownBlock ≠ some r.1 ∧ wr.ownsRow base 4 1 (.slice (some ⟨r.1, 0, none⟩) n n) n (vb r.2 n))
  (hb : Below wr.heap.size wr W2) (ho : W2.ownsRow wr.heap.size 4 1 (.slice (some ⟨g0, 0, none⟩) n n) n (vb X n)) (hbase : base ≤ wr.heap.size)
  (hown : w5.ownsRow base 145 1 v' (k + 1) (es.map (bval n) ++ [.slice (some ⟨g0, 0, none⟩) n n])) (hg : W2.grownBy w5 v.ownBlock) (hv : v'.ownBlock = v.ownBlock ∨ v'.ownBlock = some W2.heap.size) : PB n (Xs ++ [X]) base v' w5 := by
 subst hk
 exact PB.next h1 (own_below h2 hb) (fun r hr => ⟨(h3 r hr).1, own_below (h3 r hr).2 hb⟩) (fun e => by have a := (h2.lt g0 e).2; have b := (ho.lt g0 rfl).1; omega) (own_base ho hbase) hown hg hv
def parAll (s K : Nat) (j : Nat) : List Nat := (List.range j).map (parJ s K)
theorem parAll_next (s K j : Nat) : parAll s K (j + 1) = parAll s K j ++ [parJ s K j] := by
 unfold parAll
 rw [List.range_succ, List.map_append]; rfl
theorem parAll_length (s K j : Nat) : (parAll s K j).length = j := by simp [parAll]
def RParOk (s K P : Nat) (w : World) (e : Ending) (w' : World) : Prop := ∃ v, e = .returned v ∧ Hid (PB (K + P) (parAll s K P) w.heap.size v w') ∧ Hid (Below w.heap.size w w')
structure PI (wr : World) (gs b : Nat) (x0 : Int) (k s : Nat) (v : Value) (wx : World) : Prop where
 len : (parZ x0 b k).length = s
 own : wx.ownsRow (gs + 1) 3 1 v s (nv (parZ x0 b k))
 src : r1Src wx gs (shk x0 k)
 b : Below wr.heap.size wr wx
 hg : wr.heap.size ≤ gs
 x0 : 0 ≤ shk x0 k ∧ shk x0 k ≤ 4294967295
theorem PI.lt {wr : World} {gs b : Nat} {x0 : Int} {k s : Nat} {v : Value} {wx : World} (h : PI wr gs b x0 k s v wx) : gs < wx.heap.size := (Array.getElem?_eq_some_iff.1 h.src).1
theorem PI.draw {wr : World} {gs b : Nat} {x0 : Int} {k s : Nat} {v : Value} {wx : World} (h : PI wr gs b x0 k s v wx) :
  (wx.setCell ⟨gs, 0, none⟩ (.int .u32 (sh (shk x0 k)))).ownsRow (gs + 1) 3 1 v s (nv (parZ x0 b k)) ∧ r1Src (wx.setCell ⟨gs, 0, none⟩ (.int .u32 (sh (shk x0 k)))) gs (shk x0 (k + 1)) ∧ Below wr.heap.size wr (wx.setCell ⟨gs, 0, none⟩ (.int .u32 (sh (shk x0 k)))) := by
 refine ⟨?_, ?_, h.b.setCell h.hg _⟩
 ·obtain ⟨A, c, rfl, _⟩ := own_slice h.own
  exact own_but h.own ((But.refl _ gs wx).setSelf 0 _) (Nat.lt_succ_self _)
 ·unfold r1Src
  rw [heap_setCell_same wx gs 0 _ _ _ h.src]
  rfl
theorem PI.skip {wr : World} {gs b : Nat} {x0 : Int} {k s : Nat} {v : Value} {wx : World} (h : PI wr gs b x0 k s v wx) (ho : odd (mx (shk x0 (k + 1))) = false) : PI wr gs b x0 (k + 1) s v (wx.setCell ⟨gs, 0, none⟩ (.int .u32 (sh (shk x0 k)))) := by
 obtain ⟨h1, h2, h3⟩ := h.draw
 have e : parZ x0 b (k + 1) = parZ x0 b k := by
  show (if _ then _ else _) = _
  rw [ho]; rfl
 exact ⟨by rw [e]; exact h.len, by rw [e]; exact h1, h2, h3, h.hg, sh_bounds _⟩
theorem PI.more {wr w2 : World} {gs b : Nat} {x0 : Int} {k s : Nat} {v v2 : Value} {wx W : World} (h : PI wr gs b x0 k s v wx) (ho : odd (mx (shk x0 (k + 1))) = true) (hW : Below (wx.setCell ⟨gs, 0, none⟩ (.int .u32 (sh (shk x0 k)))).heap.size (wx.setCell ⟨gs, 0, none⟩ (.int .u32 (sh (shk x0 k)))) W)
  (hown : w2.ownsRow (gs + 1) 3 1 v2 (s + 1) (nv (parZ x0 b k) ++ [.int .i64 (k : Int)])) (hg : W.grownBy w2 v.ownBlock) : PI wr gs b x0 (k + 1) (s + 1) v2 w2 := by
 obtain ⟨h1, h2, h3⟩ := h.draw
 have e : parZ x0 b (k + 1) = parZ x0 b k ++ [(k : Int)] := by
  show (if _ then _ else _) = _
  rw [ho]; rfl
 have hl := (Array.getElem?_eq_some_iff.1 h2).1
 have h4 := own_below h1 hW
 have hgs : wr.heap.size ≤ gs := h.hg
 refine ⟨by rw [e, List.length_append, h.len]; rfl, by rw [e, nv_append]; exact hown, ?_, ?_, h.hg, sh_bounds _⟩
 ·unfold r1Src
  rw [hg.block gs (Nat.lt_of_lt_of_le hl hW.size) (fun q => by have := (h4.lt gs q.symm).1; omega), hW.block gs hl]
  exact h2
 ·exact below_app (h3.trans (hW.mono h3.size)) (Nat.le_trans h3.size hW.size) h4 (by omega) hg
set_option maxHeartbeats 3200000 in
theorem rparity_any (s K P Z : Nat) (w : World) (hs : s < 4294967296) (hK : 1 ≤ K ∧ K ≤ 64) (hP : P ≤ 16) (hZ : 1 ≤ Z ∧ Z ≤ 16) :
  Calls Tryz.prog 129 #[parV s K P Z] w (RParOk s K P w) := by
 obtain ⟨i0, hi, hz0, hz1, hz2⟩ := info_parts infoI64
 obtain ⟨i1, hj, hy0, hy1, hy2⟩ := info_parts infoBools
 have HX0 := Lib.hid (heap_alloc_new w (.cells #[.int .u32 (s : Int), .int .i64 (K : Int), .int .i64 (P : Int), .int .i64 (Z : Int)] 76))
 have HB0 : Hid (Below w.heap.size w (w.alloc (.cells #[.int .u32 (s : Int), .int .i64 (K : Int), .int .i64 (P : Int), .int .i64 (Z : Int)] 76))) := (Below.refl _ _).alloc (Nat.le_refl _) _
 have hz : (w.alloc (.cells #[.int .u32 (s : Int), .int .i64 (K : Int), .int .i64 (P : Int), .int .i64 (Z : Int)] 76)).heap.size = w.heap.size + 1 := by simp
 generalize hw0 : (w.alloc (.cells #[.int .u32 (s : Int), .int .i64 (K : Int), .int .i64 (P : Int), .int .i64 (Z : Int)] 76)) = w0 at *
 have HW0 := Lib.hid hw0
 have HZ0 := Lib.hid hz
 have hM := fun W => rpmay2_any (s : Int) (K : Int) (P : Int) (Z : Int) W
 rw [show mayB (K : Int) (P : Int) (Z : Int) = true from (mayB_iff _ _ _).2 (by omega)] at hM
 have hkeep := Lib.hid (spar_keep HX0.out)
 unfold parV
 have HM := Lib.hid hM
 obtain ⟨n, hn⟩ : ∃ n, K + P = n := ⟨_, rfl⟩
 have HNN := Lib.hid hn
 have hk64 : (K : Int) ≤ 64 := by omega
 have hk1 : (1 : Int) ≤ (K : Int) := by omega
 have hp16 : (P : Int) ≤ 16 := by omega
 have HS := Lib.hid hs
 rw [show RParOk s K P w = fun e w' => ∃ v, e = .returned v ∧ Hid (PB n (parAll s K P) w.heap.size v w') ∧ Hid (Below w.heap.size w w') by rw [← hn]; rfl]
 clear hM hw0 hz hn hs hZ
 go_enter Tryz.func129, Tryz.ntmps129
 go_upto_region 1 with fail
 rw [HW0.out]
 obtain ⟨_, c0, c1, c2, c3⟩ := hkeep.out w0 (Below.refl _ _)
 go_wp2_with fail
 refine (HM.out _).mono ?_
 rintro e w1 ⟨rfl, hb1⟩
 clear c0 c1 c2 c3
 obtain ⟨_, c0, c1, c2, c3⟩ := hkeep.out w1 hb1
 obtain ⟨G, hG⟩ : ∃ G, w0.heap.size = G := ⟨_, rfl⟩
 have HG := Lib.hid hG
 have HB1 : Hid (Below G w0 w1) := Lib.hid (by rw [← hG]; exact hb1)
 clear hb1 hG
 have HPB0 : Hid (PB n (parAll s K 0) G (.slice none 0 0) w1) := Lib.hid ⟨[], rfl, World.ownsRow_nil _ _ _ _, fun r hr => by cases hr⟩
 go_wp2_with fail
 clear c0 c1 c2 c3
 go_loopw [3, 13] (fun v i wr => ∃ j : Nat, j ≤ P ∧ i = .int .i64 j ∧ Hid (PB n (parAll s K j) G v wr) ∧ Hid (Below G w0 wr)) (fun _ i _ => P - (intOf i).toNat)
 case atStart => exact ⟨0, by omega, rfl, HPB0, HB1⟩
 case round =>
  obtain ⟨j, hj2, rfl, hpb, hbk⟩ := hrel
  clear HPB0 HB1
  by_cases hlt : j < P
  ·have hji : (j : Int) < (P : Int) := by omega
   have hsz := hbk.out.size
   have hG4 : G ≤ wr.heap.size := by have := HG.out; omega
   obtain ⟨_, c0, c1, c2, c3⟩ := hkeep.out wr (by rw [HG.out]; exact hbk.out)
   obtain ⟨Bn, hB⟩ : ∃ Bn : Int, 2147483648 + (j : Int) = Bn := ⟨_, rfl⟩
   have HJM : Hid ((j : Int) % 4294967296 = (j : Int)) := by show _ = _; omega
   have HBB : Hid (Bn % 4294967296 = Bn) := by show _ = _; omega
   have HBN := Lib.hid hB
   have HNW := Lib.hid (r1new_any (s : Int) Bn (by omega) (by have := HS.out; omega) (by omega) (by omega) wr)
   obtain ⟨x0, hx0⟩ : ∃ x0, seed (s : Int) Bn = x0 := ⟨_, rfl⟩
   have hxb := seed_bounds (s : Int) Bn
   rw [hx0] at HNW hxb
   have HXB := Lib.hid hxb
   obtain ⟨q, hq⟩ : ∃ q, K + j = q := ⟨_, rfl⟩
   have HPJ : Hid (ofL n (parZ x0 q K) = parJ s K j) := Lib.hid (by
    rw [ofL_parZ x0 (b := q) (by omega) (by have := HNN.out; omega)]
    unfold parJ
    rw [hB, hx0, hq])
   have hKJ : IntKind.i64.wrap ((K : Int) + (j : Int)) = (q : Int) := by rw [show (K : Int) + (j : Int) = (q : Int) by omega]; exact IntWalk.i64_in _ (by omega)
   have hKJ2 : (K : Int) + (j : Int) = (q : Int) := by omega
   have HKJ2 := Lib.hid hKJ2
   have hq80 : (q : Int) ≤ 80 := by omega
   have HG4 := Lib.hid hG4
   clear hB hx0 hxb hsz hG4 hq hKJ2
   go_wp2_with (first | rw [HJM.out] | rw [HBN.out] | rw [HBB.out])
   refine HNW.out.mono ?_
   rintro e w2 ⟨rfl, rfl⟩
   clear c0 c1 c2 c3
   have hbA : Below wr.heap.size wr (wr.alloc (.cells #[.int .u32 x0] 207)) := (Below.refl _ _).alloc (Nat.le_refl _) _
   obtain ⟨_, c0, c1, c2, c3⟩ := hkeep.out (wr.alloc (.cells #[.int .u32 x0] 207)) (hbk.out.mono (by rw [HG.out]; exact Nat.le_refl _) |>.trans (hbA.mono (by rw [HG.out]; exact HG4.out)))
   have hbI : Below wr.heap.size wr ((wr.alloc (.cells #[.int .u32 x0] 207)).alloc (.cells #[.int .i64 (q : Int)] 3)) := hbA.alloc hbA.size _
   have HPI0 : Hid (PI wr wr.heap.size q x0 0 1 (.slice (some ⟨wr.heap.size + 1, 0, none⟩) 1 1) ((wr.alloc (.cells #[.int .u32 x0] 207)).alloc (.cells #[.int .i64 (q : Int)] 3))) := Lib.hid ⟨rfl, own_lit (w := wr.alloc (.cells #[.int .u32 x0] 207)) (base := wr.heap.size + 1) (g := wr.heap.size + 1) (n := 1) (e := 3) #[.int .i64 (q : Int)] (by simp) (Nat.le_refl _) rfl (by unfold maxLen; omega), ((((Below.refl _ _).alloc (Nat.le_refl _) (.cells #[.int .i64 (q : Int)] 3) : Below (wr.alloc (.cells #[.int .u32 x0] 207)).heap.size (wr.alloc (.cells #[.int .u32 x0] 207)) _)).block wr.heap.size (by simp)).trans (heap_alloc_new wr _), hbI, Nat.le_refl _, HXB.out⟩
   go_upto_region 9 with (first | rw [hKJ] | rw [HKJ2.out])
   clear c0 c1 c2 c3
   obtain ⟨_, c0, c1, c2, c3⟩ := hkeep.out ((wr.alloc (.cells #[.int .u32 x0] 207)).alloc (.cells #[.int .i64 (q : Int)] 3)) (hbk.out.mono (by rw [HG.out]; exact Nat.le_refl _) |>.trans (hbI.mono (by rw [HG.out]; exact HG4.out)))
   clear hbA hbI
   generalize (wr.alloc (.cells #[.int .u32 x0] 207)).alloc (.cells #[.int .i64 (q : Int)] 3) = w3 at *
   obtain ⟨gs, hgs⟩ : ∃ gs, wr.heap.size = gs := ⟨_, rfl⟩
   have HGS := Lib.hid hgs
   rw [hgs] at HPI0 ⊢
   clear hgs
   go_wp2_with fail
   clear c0 c1 c2 c3
   obtain ⟨wj, rfl⟩ : ∃ W : World, W = wr := ⟨_, rfl⟩
   go_loopw [6, 29] (fun v i wr => ∃ k s' : Nat, k ≤ K ∧ i = .int .i64 k ∧ s' ≤ k + 1 ∧ Hid (PI wj gs q x0 k s' v wr)) (fun _ i _ => K - (intOf i).toNat)
   case atStart => exact ⟨0, 1, by omega, rfl, by omega, HPI0⟩
   case round =>
    obtain ⟨k, s', hk2, rfl, hs2, hpi⟩ := hrel
    clear HPI0
    by_cases hlk : k < K
    ·have hki : (k : Int) < (K : Int) := by omega
     have HNX := Lib.hid (r1nx_any gs (shk x0 k) _ hpi.out.src hpi.out.x0.1 hpi.out.x0.2)
     obtain ⟨hy0, hy1⟩ := mx_bounds (sh (shk x0 k))
     have hand := and_one_u32 _ hy0 hy1
     obtain ⟨y, hy⟩ : ∃ y, mx (sh (shk x0 k)) = y := ⟨_, rfl⟩
     rw [hy] at HNX hand
     have hodd : odd (mx (shk x0 (k + 1))) = (y % 2 == 1) := by
      show odd (mx (sh (shk x0 k))) = _
      rw [hy]; rfl
     obtain ⟨hdo, hds, hdb⟩ := hpi.out.draw
     have HDO := Lib.hid hdo
     have HDB := Lib.hid hdb
     clear hdo hds hdb hy hy0 hy1
     cases ho : (y % 2 == 1) with
     | true =>
      rw [ho] at hodd
      have hy2 : y % 2 = 1 := by simpa using ho
      rw [hy2] at hand
      have HMORE := Lib.hid (fun (w2 W : World) (v2 : Value) hW hown hg => PI.more (w2 := w2) (W := W) (v2 := v2) hpi.out hodd hW hown hg)
      have hss : s' ≤ 1000 := by omega
      have hglt : gs + 1 ≤ (wr.setCell ⟨gs, 0, none⟩ (.int .u32 (sh (shk x0 k)))).heap.size := by
       have h := hpi.out.lt
       simp; omega
      have HGL := Lib.hid hglt
      clear hodd ho hy2 hpi hglt
      go_wp2_with fail
      refine HNX.out.mono ?_
      rintro e w5 ⟨rfl, rfl⟩
      clear HNX
      generalize (wr.setCell ⟨gs, 0, none⟩ (.int .u32 (sh (shk x0 k)))) = wS at *
      have hal : Below wS.heap.size wS (wS.alloc (.cells #[.int .i64 (k : Int)] 3)) := (Below.refl _ _).alloc (Nat.le_refl _) _
      have HAL := Lib.hid hal
      clear hal
      go_wp2_with (at_builtin; refine wpList_app rfl (.tmp 36) (.tmp 38) 161 rfl (gs + 1) 3 i0 (.int .i64 0) 8 Tryz.underlying161 hi hz0 hz1 hz2 rfl _ s' (nv (parZ x0 q k)) rfl (own_below HDO.out HAL.out) _ _ 1 1 _ rfl (row_new _ _ _ _) (by intro u hu; simp at hu; subst hu; rfl) (by unfold maxLen; omega) (by omega) (Nat.le_trans HGL.out HAL.out.size) ?_; intro v6 w6 hown6 hg6 hat6)
      have HP6 := Lib.hid (HMORE.out _ _ _ HAL.out hown6 hg6)
      clear hown6 hg6 hat6
      go_wp2_with fail
      go_roundw
      case rel => exact ⟨k + 1, s' + 1, by omega, by go_num, by omega, HP6⟩
      case measure => simp [intOf]; omega
     | false =>
      rw [ho] at hodd
      have hy2 : y % 2 = 0 := by
       have : ¬ y % 2 = 1 := by simpa using ho
       omega
      rw [hy2] at hand
      have HP6 := Lib.hid (hpi.out.skip hodd)
      clear hodd ho hy2
      go_wp2_with fail
      refine HNX.out.mono ?_
      rintro e w5 ⟨rfl, rfl⟩
      go_wp2_with fail
      go_roundw
      case rel => exact ⟨k + 1, s', by omega, by go_num, by omega, HP6⟩
      case measure => simp [intOf]; omega
    ·obtain rfl : K = k := by omega
     clear hlk
     obtain ⟨A2, c2, rfl, _⟩ := own_slice hpi.out.own
     obtain ⟨fs, f1, f2, f3⟩ := hpb.out
     have hlen : (parAll s K j).length = j := parAll_length s K j
     rw [hlen] at f2
     obtain ⟨Av, cv, rfl, _⟩ := own_slice f2
     have HF1 := Lib.hid f1
     have HF2 := Lib.hid f2
     have HF3 := Lib.hid f3
     have HLN := Lib.hid hlen
     have HBI := Lib.hid hpi.out.b
     have HBR := Lib.hid (hbk.out.trans (hpi.out.b.mono HG4.out))
     obtain ⟨_, c0, c1, c2', c3⟩ := hkeep.out wr (by rw [HG.out]; exact HBR.out)
     have HBT := Lib.hid (r1bits_any n A2 s' c2 wr.heap.size (parZ x0 q K) wr (Row.of_own hpi.out.own) (Nat.le_refl _) (by omega) (by have := HNN.out; omega))
     rw [HPJ.out] at HBT
     have hKP : (K : Int) + (P : Int) = (n : Int) := by have := HNN.out; omega
     have HKP := Lib.hid hKP
     have hn80 : (n : Int) ≤ 80 := by omega
     have hGr : G ≤ wr.heap.size := Nat.le_trans HG4.out hpi.out.b.size
     have HGR := Lib.hid hGr
     clear f1 f2 f3 hlen hpi hKP hGr hpb
     go_wp2_with (rw [HKP.out])
     refine HBT.out.mono ?_
     rintro e w5 ⟨g5, rfl, ho5, hb5⟩
     have HB5 := Lib.hid (HBI.out.trans (hb5.out.mono HBI.out.size))
     have HO5 := Lib.hid (own_base ho5.out HBI.out.size)
     clear hb5 ho5 HBT c0 c1 c2' c3
     have HJ16 : (j : Int) ≤ 16 := by omega
     go_wp2_with (at_builtin; refine wpList_app rfl (.tmp 41) (.tmp 49) 181 rfl G 145 i1 (.slice none 0 0) 24 Tryz.underlying181 hj hy0 hy1 hy2 rfl _ j _ rfl (own_below HF2.out (HB5.out.alloc HB5.out.size _)) _ _ 1 1 _ rfl (row_new w5 _ _ _) (by intro u hu; simp at hu; subst hu; rfl) (by unfold maxLen; omega) (by omega) (Nat.le_trans HG4.out (HB5.out.alloc HB5.out.size _).size) ?_; intro v6 w6 hown6 hg6 hat6)
     have hbW := HB5.out.alloc HB5.out.size (.cells #[.slice (some ⟨g5, 0, none⟩) n n] 145)
     have hnext : Hid (PB n (parAll s K (j + 1)) G v6 w6) := by
      rw [parAll_next]
      exact Lib.hid (PB.app HLN.out HF1.out HF2.out HF3.out hbW (own_below HO5.out ((Below.refl _ _).alloc (Nat.le_refl _) _)) HG4.out hown6 hg6 hat6)
     have hbn : Hid (Below G w0 w6) := Lib.hid (below_app (hbk.out.trans (hbW.mono HG4.out)) (Nat.le_trans HG4.out hbW.size) (own_below HF2.out hbW) (Nat.le_refl _) hg6)
     clear hbW hown6 hg6 hat6 hbk
     go_wp2_with fail
     go_roundw
     case rel => exact ⟨j + 1, by omega, by go_num, hnext, hbn⟩
     case measure => simp [intOf]; omega
  ·obtain rfl : P = j := by omega
   clear hlt
   have hfin := Lib.hid (hpb.out.mono (base' := w.heap.size) (by have := HG.out; have := HZ0.out; omega))
   have hbf : Hid (Below w.heap.size w wr) := Lib.hid (HB0.out.trans (hbk.out.mono (by have := HG.out; have := HZ0.out; omega)))
   clear hpb hbk
   go_wp2_with fail
   go_ret
   exact ⟨_, rfl, hfin, hbf⟩
end Go.Proofs.YtmncpgfdpcckpaaGreatDoor.Pc
namespace Go.Proofs.YtmncpgfdpcckpaaGreatDoor.Pc
open Go.RowKit
open VecM RdM Vc Sp
theorem own_blk {W W' : World} {base g n c : Nat} {e : TypeId} {xs : List Value} (h : W.ownsRow base e 1 (.slice (some ⟨g, 0, none⟩) n c) n xs) (hk : W'.heap[g]? = W.heap[g]?) : W'.ownsRow base e 1 (.slice (some ⟨g, 0, none⟩) n c) n xs := by
 refine ⟨h.1, ?_⟩
 rcases h.2 with h0 | ⟨g', cap, cur, hv, hb, hg, r⟩
 ·exact .inl h0
 ·have e1 := hv
  injection e1 with e1
  injection e1 with e1
  injection e1 with e1
  subst e1
  exact .inr ⟨_, cap, cur, hv, hb, hk.trans hg, r⟩
def RPcsEnd (F : Bool) (ls : List (List UInt8)) (w : World) (e : Ending) (w' : World) : Prop :=
 (F = true ∧ PcsOk ls w e w') ∨ (F = false ∧ e = .returned (.slice none 0 0) ∧ Hid (Below w.heap.size w w'))
set_option maxHeartbeats 3200000 in
theorem rpieces_any (s K P Z n c B : Nat) (A : Option Addr) (es : List BRow) (w : World) (hs : s < 4294967296) (hK : 1 ≤ K ∧ K ≤ 64) (hP : P ≤ 16) (hZ : 1 ≤ Z ∧ Z ≤ 16) (hl : Rows2 w B A n es) (hB : B ≤ w.heap.size) :
  Calls Tryz.prog 93 #[parV s K P Z, .slice A n c] w (RPcsEnd (fitB K Z n es) (allP s K Z (es.map (·.l)) P) w) := by
 obtain ⟨i0, hi, hz0, hz1, hz2⟩ := info_parts Tryz.info22
 have HX0 := Lib.hid (heap_alloc_new w (.cells #[.int .u32 (s : Int), .int .i64 (K : Int), .int .i64 (P : Int), .int .i64 (Z : Int)] 76))
 have HB0 : Hid (Below w.heap.size w (w.alloc (.cells #[.int .u32 (s : Int), .int .i64 (K : Int), .int .i64 (P : Int), .int .i64 (Z : Int)] 76))) := (Below.refl _ _).alloc (Nat.le_refl _) _
 have hz : (w.alloc (.cells #[.int .u32 (s : Int), .int .i64 (K : Int), .int .i64 (P : Int), .int .i64 (Z : Int)] 76)).heap.size = w.heap.size + 1 := by simp
 generalize hw0 : (w.alloc (.cells #[.int .u32 (s : Int), .int .i64 (K : Int), .int .i64 (P : Int), .int .i64 (Z : Int)] 76)) = w0 at *
 have HW0 := Lib.hid hw0
 have HZ0 := Lib.hid hz
 have hM := fun W => rpmay2_any (s : Int) (K : Int) (P : Int) (Z : Int) W
 rw [show mayB (K : Int) (P : Int) (Z : Int) = true from (mayB_iff _ _ _).2 (by omega)] at hM
 have hkeep := Lib.hid (spar_keep HX0.out)
 have HL := Lib.hid (fun W (hW : Below w0.heap.size w0 W) => (hl.below (HB0.out.mono hB)).below (hW.mono (by omega)))
 have hR := fun W => rparity_any s K P Z W hs hK hP hZ
 unfold parV at hR ⊢
 have HM := Lib.hid hM
 have HR := Lib.hid hR
 have HBB : Hid (B ≤ w0.heap.size) := Lib.hid (by omega)
 have HKB := Lib.hid hK
 have HZB := Lib.hid hZ
 have HLEN : Hid (es.length = n) := Lib.hid (by have := hl.1.1; simpa using this)
 have hk64 : (K : Int) ≤ 64 := by omega
 have hp16 : (P : Int) ≤ 16 := by omega
 clear hM hR hs hK hZ hB hl hw0 hz
 by_cases hnk : n = K
 ·subst hnk
  have hnn : ((n : Int) != (n : Int)) = false := by simp
  obtain ⟨N, hN⟩ : ∃ N, n + P = N := ⟨_, rfl⟩
  have HNN := Lib.hid hN
  obtain ⟨RF, hRF⟩ : ∃ RF, fitB n Z n es = RF := ⟨_, rfl⟩
  have HRF := Lib.hid hRF
  rw [hRF]
  clear hN hRF
  go_enter Tryz.func93, Tryz.ntmps93
  go_upto_region 1 with fail
  rw [HW0.out]
  obtain ⟨_, c0, c1, c2, c3⟩ := hkeep.out w0 (Below.refl _ _)
  go_wp2_with fail
  refine (HM.out _).mono ?_
  rintro e w1 ⟨rfl, hb1⟩
  clear c0 c1 c2 c3
  obtain ⟨_, c0, c1, c2, c3⟩ := hkeep.out w1 hb1
  obtain ⟨G, hG⟩ : ∃ G, w0.heap.size = G := ⟨_, rfl⟩
  have HG := Lib.hid hG
  have HB1 : Hid (Below G w0 w1) := Lib.hid (by rw [← hG]; exact hb1)
  clear hb1 hG
  have HOW : Hid (PW ((es.map (·.l)).take 0) G (.slice none 0 0) w1) := Lib.hid ⟨[], by simp, by simpa using World.ownsRow_nil _ _ _ _, fun r hr => by cases hr⟩
  have HAF : Hid (∀ r ∈ es.take 0, r.n = Z) := Lib.hid (by simp)
  go_wp2_with fail
  clear c0 c1 c2 c3
  go_loopw [5, 22] (fun v i wr => ∃ k : Nat, k ≤ n ∧ i = .int .i64 k ∧ Hid (PW ((es.map (·.l)).take k) G v wr) ∧ Hid (∀ r ∈ es.take k, r.n = Z) ∧ Hid (Below G w0 wr)) (fun _ i _ => n - (intOf i).toNat)
  case atStart => exact ⟨0, by omega, rfl, HOW, HAF, HB1⟩
  case round =>
   obtain ⟨k, hk, rfl, hpw, haf, hbk⟩ := hrel
   have hsz := hbk.out.size
   have hG4 : G ≤ wr.heap.size := by have := HG.out; omega
   clear HOW HAF HB1
   by_cases hlt : k < n
   ·obtain ⟨fs, f1, f2, f3⟩ := hpw.out
    have hlen : ((es.map (·.l)).take k).length = k := by have := HLEN.out; simp; omega
    rw [hlen] at f2
    obtain ⟨Av, cv, rfl, _⟩ := own_slice f2
    obtain ⟨b, o, rfl, r, hr, hcell, hrow⟩ := (HL.out wr (by rw [HG.out]; exact hbk.out)).at_ hlt
    have hki : (k : Int) < (n : Int) := by omega
    obtain ⟨_, c0, c1, c2, c3⟩ := hkeep.out wr (by rw [HG.out]; exact hbk.out)
    by_cases hrn : r.n = Z
    ·have htk : (es.map (·.l)).take (k + 1) = (es.map (·.l)).take k ++ [r.l] := by
      have hlk : k < (es.map (·.l)).length := by have := HLEN.out; simp; omega
      rw [List.take_succ_eq_append_getElem hlk]
      have : es[k]'(by simpa using hlk) = r := by
       have h2 := List.getElem?_eq_getElem (l := es) (i := k) (by simpa using hlk)
       rw [h2] at hr; injection hr
      simp [this]
     have htk2 : es.take (k + 1) = es.take k ++ [r] := by
      have hlk : k < es.length := by have := HLEN.out; omega
      rw [List.take_succ_eq_append_getElem hlk]
      have h2 := List.getElem?_eq_getElem (l := es) (i := k) hlk
      rw [h2] at hr; injection hr with hr; rw [hr]
     have HAF2 : Hid (∀ q ∈ es.take (k + 1), q.n = Z) := Lib.hid (by
      rw [htk2]
      intro q hq
      rcases List.mem_append.1 hq with hq | hq
      ·exact haf.out q hq
      ·obtain rfl := List.mem_singleton.1 hq
       exact hrn)
     have HTK := Lib.hid htk
     rw [hrn] at hcell hrow
     have hal : Below wr.heap.size wr (wr.alloc (.cells #[.slice r.A Z r.c] 22)) := (Below.refl _ _).alloc (Nat.le_refl _) _
     have hr2 : Rows2 (wr.alloc (.cells #[.slice r.A Z r.c] 22)) (wr.alloc (.cells #[.slice r.A Z r.c] 22)).heap.size (some ⟨wr.heap.size, 0, none⟩) 1 [r] := ⟨by
       have h := row_new wr #[.slice r.A Z r.c] 22 (0, 0)
       have e : [r].map BRow.val = [.slice r.A Z r.c] := by simp [BRow.val, hrn]
       rw [e]
       exact h.more (by simp), fun q hq => by
       obtain rfl := List.mem_singleton.1 hq
       rw [hrn]
       exact ((hrow.below (hal.mono (by have := HBB.out; have := HG.out; omega))).more (by have := HBB.out; have := HG.out; simp; omega))⟩
     have HJN := Lib.hid (join_any _ 1 1 (some ⟨wr.heap.size, 0, none⟩) [r] (wr.alloc (.cells #[.slice r.A Z r.c] 22)) hr2 (by omega) (by have := hrow.blen; have := HZB.out; simp [flat]; omega) (Nat.le_refl _))
     have hfl : flat [r] = r.l := by simp [flat]
     rw [hfl] at HJN
     have HRL : Hid (r.l.length = Z) := Lib.hid hrow.blen
     have HF2 := Lib.hid f2
     have HF1 := Lib.hid f1
     have HF3 := Lib.hid f3
     have HLN := Lib.hid hlen
     have HG4 := Lib.hid hG4
     have HALW := Lib.hid hal
     have hnz : ((Z : Int) != (Z : Int)) = false := by simp
     clear f1 f2 f3 htk htk2 hr hrow hpw hlen hal hr2 hfl haf
     go_wp2_with fail
     refine HJN.out.mono ?_
     rintro e w5 ⟨A5, m5, c5, rfl, hm5, hown5, hb5⟩
     have hm5' : m5 = Z := by rw [hm5.out]; exact HRL.out
     obtain ⟨g5, c5', hv5, hg5, _⟩ := hown5.form (by have := HZB.out; omega)
     injection hv5 with e1 e2 e3
     subst e1 e3
     subst hm5'
     have HB5 := Lib.hid (HALW.out.trans (hb5.mono HALW.out.size))
     have HO5 := Lib.hid (own_base hown5 HALW.out.size)
     clear hm5 hb5 hown5 HJN hcell hG4 c0 c1 c2 c3 hnz
     go_wp2_with (at_builtin; refine wpList_app rfl (.tmp 31) (.tmp 35) 102 rfl G 22 i0 (.slice none 0 0) 24 Tryz.underlying102 hi hz0 hz1 hz2 rfl _ k _ rfl (own_below HF2.out (HB5.out.alloc HB5.out.size _)) _ _ 1 1 _ rfl (row_new w5 _ _ _) (by intro u hu; simp at hu; subst hu; rfl) (by unfold maxLen; omega) (by omega) (Nat.le_trans HG4.out (HB5.out.alloc HB5.out.size _).size) ?_; intro v6 w6 hown6 hg6 hat6)
     have hbW := HB5.out.alloc HB5.out.size (.cells #[.slice (some ⟨g5, 0, none⟩) m5 c5] 22)
     have hnext : Hid (PW ((es.map (·.l)).take (k + 1)) G v6 w6) := by
      rw [HTK.out]
      exact Lib.hid (PW.app HLN.out HF1.out HF2.out HF3.out hbW (own_below HO5.out ((Below.refl _ _).alloc (Nat.le_refl _) _)) HG4.out hown6 hg6 hat6)
     have hbn : Hid (Below G w0 w6) := Lib.hid (below_app (hbk.out.trans (hbW.mono HG4.out)) (Nat.le_trans HG4.out hbW.size) (own_below HF2.out hbW) (Nat.le_refl _) hg6)
     clear hbW hown6 hg6 hat6 hbk
     go_wp2_with fail
     go_roundw
     case rel => exact ⟨k + 1, by omega, by go_num, hnext, HAF2, hbn⟩
     case measure => simp [intOf]; omega
    ·have hres : RF = false := by rw [← HRF.out]; exact fitB_row (List.mem_of_getElem? hr) hrn
     have hrz : ((r.n : Int) != (Z : Int)) = true := by simp; omega
     have hbf : Hid (Below w.heap.size w wr) := Lib.hid (HB0.out.trans (hbk.out.mono (by have := HG.out; have := HZ0.out; omega)))
     have HRES := Lib.hid hres
     clear f1 f2 f3 hpw hrow hres
     go_wp2_with fail
     go_ret
     exact .inr ⟨HRES.out, rfl, hbf⟩
   ·obtain rfl : n = k := by omega
    clear hlt
    have hfit : RF = true := by
     rw [← HRF.out]
     refine fitB_yes.2 ⟨rfl, fun r hr => haf.out r ?_⟩
     rw [List.take_of_length_le (by have := HLEN.out; omega)]
     exact hr
    have HFIT := Lib.hid hfit
    have HES : Hid (∀ r ∈ es, r.n = Z) := Lib.hid fun r hr => haf.out r (by rw [List.take_of_length_le (by have := HLEN.out; omega)]; exact hr)
    have hpw0 := hpw.out
    rw [List.take_of_length_le (by have := HLEN.out; simp; omega)] at hpw0
    obtain ⟨fs0, q1, q2, q3⟩ := hpw0
    have hl0 : (es.map (·.l)).length = n := by have := HLEN.out; simpa using this
    rw [hl0] at q2
    obtain ⟨Av, cv, rfl, _⟩ := own_slice q2
    have hpw0 : PW (es.map (·.l)) G (.slice Av n cv) wr := ⟨fs0, q1, by rw [hl0]; exact q2, q3⟩
    have hvlt : ∀ b, wr.heap.size ≤ b → (Value.slice Av n cv).ownBlock ≠ some b := by
     intro b hb e
     have := (q2.lt b e).2
     omega
    clear q1 q2 q3 hl0 hfit haf
    obtain ⟨_, c0, c1, c2, c3⟩ := hkeep.out wr (by rw [HG.out]; exact hbk.out)
    have HPW := Lib.hid hpw0
    have HVL := Lib.hid hvlt
    have HG4 := Lib.hid hG4
    obtain ⟨wp, rfl⟩ : ∃ W : World, W = wr := ⟨_, rfl⟩
    clear hpw hpw0 hvlt hsz hG4
    go_wp2_with fail
    refine (HR.out wp).mono ?_
    rintro e wR ⟨vR, rfl, hvr, hbR⟩
    have HBR := Lib.hid (hbk.out.trans (hbR.out.mono HG4.out))
    have HPR : Hid (PW (allP s n Z (es.map (·.l)) 0) G (.slice Av n cv) wR) := Lib.hid (by
     have := HPW.out.below hbR.out
     unfold allP
     simpa using this)
    have HST : Hid (Stay wp.heap.size wR (.slice Av n cv) wR) := Lib.hid ⟨Nat.le_refl _, fun b h1 _ => ⟨rfl, HVL.out b h1⟩⟩
    obtain ⟨fs, e1, e2, e3⟩ := hvr.out
    rw [parAll_length] at e2
    obtain ⟨Ap, cp, rfl, _⟩ := own_slice e2
    rw [HNN.out] at e2 e3
    have HE1 := Lib.hid e1
    have HE2 := Lib.hid e2
    have HE3 := Lib.hid e3
    clear c0 c1 c2 c3 HPW HVL hbR hvr HR hbk e1 e2 e3
    go_wp2_with fail
    go_loopw [5, 41] (fun v i wr => ∃ j : Nat, j ≤ P ∧ i = .int .i64 j ∧ Hid (PW (allP s n Z (es.map (·.l)) j) G v wr) ∧ Hid (Stay wp.heap.size wR v wr) ∧ Hid (Below G w0 wr)) (fun _ i _ => P - (intOf i).toNat)
    case atStart => exact ⟨0, by omega, rfl, HPR, HST, HBR⟩
    case round =>
     obtain ⟨j, hj, rfl, hpw, hst, hbk⟩ := hrel
     have hsz := hbk.out.size
     have hG4 : G ≤ wr.heap.size := by have := HG.out; omega
     clear HPR HST HBR
     by_cases hlt : j < P
     ·obtain ⟨fs2, f1, f2, f3⟩ := hpw.out
      have hlen : (allP s n Z (es.map (·.l)) j).length = n + j := by have := HLEN.out; rw [allP_length]; simp; omega
      rw [hlen] at f2
      obtain ⟨Av2, cv2, rfl, _⟩ := own_slice f2
      have hfl : j < fs.length := by have := congrArg List.length HE1.out; rw [parAll_length, List.length_map] at this; omega
      obtain ⟨q, hq⟩ : ∃ q, fs[j]? = some q := ⟨_, List.getElem?_eq_getElem hfl⟩
      have hqX : q.2 = parJ s n j := by
       have h1 := congrArg (fun l : List Nat => l[j]?) HE1.out
       simp only [List.getElem?_map, hq, parAll, List.getElem?_range hlt] at h1
       exact Option.some.inj h1
      obtain ⟨_, hq2⟩ := HE3.out q (List.mem_of_getElem? hq)
      rw [hqX] at hq2
      obtain ⟨bp, op, hAp, hbp, hcp⟩ := (Row.of_own HE2.out).cellAt (k := j) hlt (u := .slice (some ⟨q.1, 0, none⟩) N N) (by rw [List.getElem?_map, hq]; rfl)
      subst hAp
      have hpl := HE2.out.lt bp rfl
      have hcell : wr.cell? ⟨bp, op + j, none⟩ = some (.slice (some ⟨q.1, 0, none⟩) N N) := (World.cell?_of_block (w := wR) (a := ⟨bp, op + j, none⟩) (hst.out.2 bp hpl.1 hpl.2).1).trans hcp
      have hql := hq2.lt q.1 rfl
      have hrow := Row.of_own (own_blk hq2 (hst.out.2 q.1 hql.1 hql.2).1)
      obtain ⟨_, c0, c1, c2, c3⟩ := hkeep.out wr (by rw [HG.out]; exact hbk.out)
      have hLr := HL.out wr (by rw [HG.out]; exact hbk.out)
      have HSU := Lib.hid (rsum_any (parJ s n j) N N Z n c wr.heap.size (some ⟨q.1, 0, none⟩) A es wr hrow ⟨hLr.1.more (by have := HBB.out; have := HG.out; omega), fun r hr => (hLr.2 r hr).more (by have := HBB.out; have := HG.out; omega)⟩ HES.out (by have := HNN.out; omega) (by have := HNN.out; have := HKB.out; omega) (by have := HZB.out; omega) (Nat.le_refl _))
      have HF2 := Lib.hid f2
      have HF1 := Lib.hid f1
      have HF3 := Lib.hid f3
      have HLN := Lib.hid hlen
      have hji : (j : Int) < (P : Int) := by omega
      have HG4 := Lib.hid hG4
      clear f1 f2 f3 hpw hlen hG4 hsz hfl hq hqX hq2 hbp hcp hpl hql hrow hLr
      go_wp2_with fail
      refine HSU.out.mono ?_
      rintro e w5 ⟨g5, c5, rfl, ho5, hb5⟩
      clear HSU hcell c0 c1 c2 c3
      obtain ⟨kj, hkj⟩ : ∃ kj, n + j = kj := ⟨_, rfl⟩
      rw [hkj] at HF2 HF3 HLN hst ⊢
      have hkj80 : kj ≤ 80 := by omega
      have HKJ := Lib.hid hkj
      clear hkj
      go_wp2_with (at_builtin; refine wpList_app rfl (.tmp 45) (.tmp 51) 102 rfl G 22 i0 (.slice none 0 0) 24 Tryz.underlying102 hi hz0 hz1 hz2 rfl _ kj _ rfl (own_below HF2.out (hb5.out.alloc hb5.out.size _)) _ _ 1 1 _ rfl (row_new w5 _ _ _) (by intro u hu; simp at hu; subst hu; rfl) (by unfold maxLen; omega) (by omega) (Nat.le_trans HG4.out (hb5.out.alloc hb5.out.size _).size) ?_; intro v6 w6 hown6 hg6 hat6)
      have hbW := hb5.out.alloc hb5.out.size (.cells #[.slice (some ⟨g5, 0, none⟩) Z c5] 22)
      have hnext : Hid (PW (allP s n Z (es.map (·.l)) (j + 1)) G v6 w6) := by
       rw [allP_next]
       exact Lib.hid (PW.app HLN.out HF1.out HF2.out HF3.out hbW (own_below ho5.out ((Below.refl _ _).alloc (Nat.le_refl _) _)) HG4.out hown6 hg6 hat6)
      have hbn : Hid (Below G w0 w6) := Lib.hid (below_app (hbk.out.trans (hbW.mono HG4.out)) (Nat.le_trans HG4.out hbW.size) (own_below HF2.out hbW) (Nat.le_refl _) hg6)
      have hsn : Hid (Stay wp.heap.size wR v6 w6) := Lib.hid (hst.out.step hbW hg6 hat6)
      clear hbW hown6 hg6 hat6 hbk hst hb5 ho5
      go_wp2_with fail
      go_roundw
      case rel => exact ⟨j + 1, by omega, by go_num, hnext, hsn, hbn⟩
      case measure => simp [intOf]; omega
     ·obtain rfl : P = j := by omega
      clear hlt
      have hfin := Lib.hid (hpw.out.mono (base' := w.heap.size) (by have := HG.out; have := HZ0.out; omega))
      have hbf : Hid (Below w.heap.size w wr) := Lib.hid (HB0.out.trans (hbk.out.mono (by have := HG.out; have := HZ0.out; omega)))
      clear hpw hst hbk
      go_wp2_with fail
      go_ret
      exact .inl ⟨HFIT.out, _, rfl, hfin, hbf⟩
 ·have hnn : ((n : Int) != (K : Int)) = true := by simp; omega
  have hfb : fitB K Z n es = false := fitB_len hnk
  rw [hfb]
  go_enter Tryz.func93, Tryz.ntmps93
  go_upto_region 1 with fail
  rw [HW0.out]
  obtain ⟨_, c0, c1, c2, c3⟩ := hkeep.out w0 (Below.refl _ _)
  go_wp2_with fail
  refine (HM.out _).mono ?_
  rintro e w1 ⟨rfl, hb1⟩
  clear c0 c1 c2 c3
  obtain ⟨_, c0, c1, c2, c3⟩ := hkeep.out w1 hb1
  have hbf : Hid (Below w.heap.size w w1) := Lib.hid (HB0.out.trans (hb1.mono HB0.out.size))
  go_wp2_with fail
  go_ret
  exact .inr ⟨rfl, rfl, hbf⟩
end Go.Proofs.YtmncpgfdpcckpaaGreatDoor.Pc
