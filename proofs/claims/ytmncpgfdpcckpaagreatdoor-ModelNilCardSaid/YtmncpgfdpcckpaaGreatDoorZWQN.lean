/- The reference's crc, bit by bit: the same register. The reference's Put: by contracts. -/
import Derived.Deep.RegionWith
import Derived.Deep.DeepCutAuto
import Derived.Test.YtmncpgfdpcckpaaGreatDoorZAQN
namespace Go.Proofs.YtmncpgfdpcckpaaGreatDoor
open Go.RowKit
namespace CrcM
theorem shift_low (R y : Nat) : (R ^^^ y) / 2 ^^^ (if R % 2 = 1 then poly else 0) = bit1 R ^^^ y / 2 := by
 unfold bit1; rw [xor_div2]; ac_rfl
def refReg (c x s : Nat) : Nat := rounds s (c ^^^ x) ^^^ (x / 2 ^ s)
theorem refReg_zero (c x : Nat) : refReg c x 0 = c := by unfold refReg; simp [rounds, xor_back]
theorem refReg_eight (c x : Nat) (h : x < 256) : refReg c x 8 = step (c ^^^ x) := by
 unfold refReg
 have : x / 2 ^ 8 = 0 := by omega
 rw [this, Nat.xor_zero]; rfl
theorem refReg_low (c x s : Nat) : (refReg c x s + x / 2 ^ s) % 2 = rounds s (c ^^^ x) % 2 := by
 rw [← xor_mod2]; unfold refReg; rw [xor_back]
theorem refReg_next (c x s : Nat) : refReg c x (s + 1) = refReg c x s / 2 ^^^ (if (refReg c x s + x / 2 ^ s) % 2 = 1 then poly else 0) := by
 rw [refReg_low]
 show bit1 (rounds s (c ^^^ x)) ^^^ (x / 2 ^ (s + 1)) = (rounds s (c ^^^ x) ^^^ (x / 2 ^ s)) / 2 ^^^ _
 rw [shift_low, Nat.pow_succ, Nat.div_div_eq_div_mul]
theorem refReg_lt (c x s : Nat) (hc : c < 2 ^ 32) (hx : x < 256) : refReg c x s < 2 ^ 32 := by
 unfold refReg
 refine xor_lt _ _ _ (rounds_lt _ _ (xor_lt _ _ _ hc (by omega))) ?_
 exact Nat.lt_of_le_of_lt (Nat.div_le_self _ _) (by omega)
def bitReg (l : List UInt8) (i : Nat) : Nat := refReg (reg full (l.take (i / 8))) (l.getD (i / 8) 0).toNat (i % 8)
theorem bitReg_lt (l : List UInt8) (i : Nat) : bitReg l i < 2 ^ 32 := refReg_lt _ _ _ (reg_lt _ _ full_lt) (b_lt _)
theorem bitReg_zero (l : List UInt8) : bitReg l 0 = full := by simp [bitReg, refReg_zero, reg]
theorem bitReg_next (l : List UInt8) (i : Nat) (h : i < 8 * l.length) :
  bitReg l (i + 1) = bitReg l i / 2 ^^^ (if (bitReg l i + (l.getD (i / 8) 0).toNat / 2 ^ (i % 8)) % 2 = 1 then poly else 0) := by
 unfold bitReg
 rw [← refReg_next]
 by_cases h7 : i % 8 = 7
 ·have e1 : (i + 1) / 8 = i / 8 + 1 := by omega
  have e2 : (i + 1) % 8 = 0 := by omega
  have hq : i / 8 < l.length := by omega
  rw [e1, e2, refReg_zero, h7, refReg_eight _ _ (b_lt _), List.take_succ_eq_append_getElem hq, reg_append]
  simp [reg, List.getD, hq]
 ·have e1 : (i + 1) / 8 = i / 8 := by omega
  have e2 : (i + 1) % 8 = i % 8 + 1 := by omega
  rw [e1, e2]
theorem bitReg_end (l : List UInt8) : bitReg l (8 * l.length) ^^^ full = sum l := by
 unfold bitReg sum add
 have e1 : 8 * l.length / 8 = l.length := by omega
 have e2 : 8 * l.length % 8 = 0 := by omega
 rw [e1, e2, refReg_zero, List.take_length, Nat.zero_xor]
end CrcM
theorem bit_low (R x s : Nat) (hR : R < 2 ^ 32) (hx : x < 256) :
  (bits .xor .u32 (bits .and .u32 (R : Int) 1) (bits .and .u32 ((x : Int) / 2 ^ s % 4294967296) 1) == 1) = decide ((R + x / 2 ^ s) % 2 = 1) := by
 have hy : x / 2 ^ s < 256 := Nat.lt_of_le_of_lt (Nat.div_le_self _ _) hx
 have e0 : ((x : Int) / 2 ^ s) = ((x / 2 ^ s : Nat) : Int) := by push_cast; rfl
 rw [e0]
 generalize x / 2 ^ s = y at *
 have e : ((y : Int) % 4294967296) = (y : Int) := by omega
 rw [e, show (1 : Int) = ((1 : Nat) : Int) from rfl, u32_and_nat R 1 hR (by decide), u32_and_nat _ 1 (Nat.lt_trans hy (by decide)) (by decide), Nat.and_one_is_mod, Nat.and_one_is_mod, u32_xor_nat _ _ (by omega) (by omega), Nat.add_mod]
 have h1 : R % 2 = 0 ∨ R % 2 = 1 := by omega
 have h2 : y % 2 = 0 ∨ y % 2 = 1 := by omega
 rcases h1 with h1 | h1 <;> rcases h2 with h2 | h2 <;> rw [h1, h2] <;> rfl
set_option maxHeartbeats 400000 in
theorem r1crc_any (B n cap : Nat) (A : Option Addr) (l : List UInt8) (w : World) (hl : Row w B A n (bv l)) (hn : n ≤ 1000000000000) :
  Calls Tryz.prog 122 #[.slice A n cap] w fun e w' => e = .returned (.int .u32 (CrcM.sum l : Nat)) ∧ w = w' := by
 have HN := Lib.hid hl.blen
 go_enter Tryz.func122, Tryz.ntmps122
 go_wp2
 go_loop [3, 10] (fun v i => ∃ k : Nat, k ≤ 8 * n ∧ i = .int .i64 k ∧ v = .int .u32 (CrcM.bitReg l k : Nat)) (fun _ i => 8 * n - (intOf i).toNat)
 case atStart => exact ⟨0, by omega, rfl, by rw [CrcM.bitReg_zero]; rfl⟩
 case round =>
  obtain ⟨k, hk, rfl, rfl⟩ := hrel
  by_cases hlt : k < 8 * n
  ·obtain ⟨b, o, rfl, _, hkl, hcell⟩ := hl.byteAt (k := k / 8) (by omega)
   have hb : (l[k / 8].toNat : Int) ≤ 255 := by have := CrcM.b_lt l[k / 8]; omega
   have hi1 : (0 : Int) ≤ (k : Int) / 8 := by omega
   have hi2 : (k : Int) / 8 < n := by omega
   generalize hR : CrcM.bitReg l k = R at *
   have HR := Lib.hid hR
   clear hR
   have hx256 : l[k / 8].toNat < 256 := CrcM.b_lt _
   have hgd : l.getD (k / 8) 0 = l[k / 8] := by simp [List.getD, hkl]
   have hR32 : R < 2 ^ 32 := by rw [← HR.out]; exact CrcM.bitReg_lt _ _
   have hnext := CrcM.bitReg_next l k (by have := hl.blen; omega)
   rw [HR.out, hgd] at hnext
   have HL := Lib.hid (bit_low R _ (k % 8) hR32 hx256)
   have HP := Lib.hid (bits_poly R hR32)
   have HNX := Lib.hid hnext
   clear hnext hgd hR32
   go_wp2_with fail
   ·have hodd : (bits .xor .u32 (bits .and .u32 (R : Int) 1) (bits .and .u32 ((l[k / 8].toNat : Int) / 2 ^ (k % 8) % 4294967296) 1) == 1) = true := by assumption
    rw [HL.out] at hodd
    have ho := of_decide_eq_true hodd
    clear hodd
    go_round
    case rel =>
     refine ⟨k + 1, by omega, by go_num, ?_⟩
     rw [HP.out, HNX.out, if_pos ho]
    case measure => simp [intOf]; omega
   ·have hodd : (bits .xor .u32 (bits .and .u32 (R : Int) 1) (bits .and .u32 ((l[k / 8].toNat : Int) / 2 ^ (k % 8) % 4294967296) 1) == 1) = false := by assumption
    rw [HL.out] at hodd
    have ho := of_decide_eq_false hodd
    clear hodd
    go_round
    case rel =>
     refine ⟨k + 1, by omega, by go_num, ?_⟩
     rw [HNX.out, if_neg ho, Nat.xor_zero]
     rfl
    case measure => simp [intOf]; omega
  ·have : k = 8 * n := by omega
   subst this
   have HX := Lib.hid (xor_full (CrcM.bitReg l (8 * n)) (CrcM.bitReg_lt _ _))
   have HE := Lib.hid (CrcM.bitReg_end l)
   go_wp2
   go_ret
   refine ⟨?_, rfl⟩
   rw [HX.out]
   have := HE.out
   rw [HN.out] at this
   rw [this]; rfl
end Go.Proofs.YtmncpgfdpcckpaaGreatDoor
namespace Go.Proofs.YtmncpgfdpcckpaaGreatDoor
open Go.RowKit
set_option maxHeartbeats 400000 in
theorem r1put_any (B n cap : Nat) (A : Option Addr) (l : List UInt8) (w : World) (hl : Row w B A n (bv l)) (hn : n ≤ 1000000000) (hB : B ≤ w.heap.size) :
  Calls Tryz.prog 88 #[.slice A n cap] w (FreshBytes w.heap.size (CrcM.put l) w) := by
 obtain ⟨i0, hi, hz0, hz1, hz2⟩ := info_parts Tryz.info5
 go_enter Tryz.func88, Tryz.ntmps88
 go_wp2_with (at_builtin; refine wpList_app rfl _ (.tmp 3) 22 rfl w.heap.size 5 i0 (.int .u8 0) 1 Tryz.underlying22 hi hz0 hz1 hz2 rfl _ 0 [] rfl (World.ownsRow_nil _ _ _ _) B A n cap (bv l) rfl hl (bv_one l) (by unfold maxLen; omega) (by omega) (Nat.le_refl _) ?_; intro v2 w2 hown2 hg2 hat2)
 have hb2 : Below w.heap.size w w2 := (Below.refl _ _).grown hg2 (Nat.le_refl _) (by intro g h; nomatch h)
 have hs2 := hb2.size
 refine (r1crc_any B n cap A l w2 (hl.below (hb2.mono hB)) (by omega)).mono ?_
 rintro e w' ⟨rfl, rfl⟩
 go_wp2_with fail
 refine (four_any (CrcM.sum l) (CrcM.sum_lt l) w2).mono ?_
 rintro e w3 ⟨A3, n3, c3, rfl, hn3, hown3, hb3⟩
 have hs3 := hb3.size
 have hn3' : n3 = 4 := hn3.out
 subst hn3'
 have hown2' := own_below hown2 hb3
 go_wp2_with (at_builtin; refine wpList_app rfl (.tmp 4) (.tmp 7) 22 rfl w.heap.size 5 i0 (.int .u8 0) 1 Tryz.underlying22 hi hz0 hz1 hz2 rfl v2 (0 + n) ([] ++ bv l) rfl hown2' _ A3 4 c3 _ rfl (Row.of_own hown3) (bv_one _) (by unfold maxLen; omega) (by omega) (by omega) ?_; intro v4 w4 hown4 hg4 hat4)
 obtain ⟨A4, c4, rfl, _⟩ := own_slice hown4
 have hb4 : Below w.heap.size w w4 := below_app (hb2.trans (hb3.mono hs2)) (by omega) hown2' (Nat.le_refl _) hg4
 go_ret
 have hbl := hl.blen
 refine ⟨A4, 0 + n + 4, c4, rfl, ?_, ?_, hb4⟩
 ·show _ = (CrcM.put l).length
  rw [CrcM.put_length]; omega
 ·rw [List.nil_append, ← bv_append] at hown4
  exact hown4
end Go.Proofs.YtmncpgfdpcckpaaGreatDoor
