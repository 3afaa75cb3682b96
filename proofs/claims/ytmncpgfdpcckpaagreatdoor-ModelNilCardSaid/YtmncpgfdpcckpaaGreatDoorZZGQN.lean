/- The reference's Tag: by contract. -/
import Derived.Test.YtmncpgfdpcckpaaGreatDoorRDigQN
import Derived.Test.YtmncpgfdpcckpaaGreatDoorZRQN
import Derived.Test.YtmncpgfdpcckpaaGreatDoorZMJQN
import Derived.Test.YtmncpgfdpcckpaaGreatDoorZZHQN
import Derived.Test.YtmncpgfdpcckpaaGreatDoorZZDQN
set_option maxRecDepth 100000
namespace Go.Proofs.YtmncpgfdpcckpaaGreatDoor.Sh
open Go.RowKit
theorem mk64 (W : World) : (Instr.makeSlice 22 (.int .i64 64) (.int .i64 64)).run Tryz.prog W = .ok (.slice (some ⟨W.heap.size, 0, none⟩) 64 64) (W.alloc (.cells (List.replicate 64 (.int .u8 0)).toArray 5)) := by
 have := mk_bytes 64 (by omega) W
 rw [rep_list] at this
 exact this
def kx (l : List UInt8) (x : UInt8) (k i : Nat) : UInt8 := if i < k then l.getD i 0 ^^^ x else 0
def TwoK (l : List UInt8) (k g1 g2 : Nat) (w wx : World) : Prop := BAt wx g1 64 (kx l 0x36 k) ∧ BAt wx g2 64 (kx l 0x5c k) ∧ Below w.heap.size w wx
theorem kx_next (l : List UInt8) (x : UInt8) (k i : Nat) : kx l x (k + 1) i = if i = k then l.getD k 0 ^^^ x else kx l x k i := by
 unfold kx
 by_cases e : i = k
 ·subst e; rw [if_pos rfl, if_pos (by omega)]
 ·rw [if_neg e]
  by_cases h9 : i < k
  ·rw [if_pos (by omega), if_pos h9]
  ·rw [if_neg (by omega), if_neg h9]
theorem TwoK.next {l : List UInt8} {k g1 g2 : Nat} {w wr : World} {x1 x2 : UInt8} (h : TwoK l k g1 g2 w wr) (hk : k < 64) (hne : g1 ≠ g2) (hg1 : w.heap.size ≤ g1) (hg2 : w.heap.size ≤ g2) (h1 : x1 = l.getD k 0 ^^^ 0x36) (h2 : x2 = l.getD k 0 ^^^ 0x5c) :
  TwoK l (k + 1) g1 g2 w ((wr.setCell ⟨g1, k, none⟩ (.int .u8 (x1.toNat : Int))).setCell ⟨g2, k, none⟩ (.int .u8 (x2.toNat : Int))) := by
 obtain ⟨d1, d2, d3⟩ := h
 subst h1 h2
 refine ⟨?_, ?_, (d3.setCell hg1 _).setCell hg2 _⟩
 ·have := d1.store (f' := kx l 0x36 (k + 1)) (x := l.getD k 0 ^^^ 0x36) hk (fun i _ => kx_next l 0x36 k i)
  exact this.keep (heap_setCell_other _ _ _ _ hne)
 ·have := (d2.keep (W' := wr.setCell ⟨g1, k, none⟩ (.int .u8 ((l.getD k 0 ^^^ 0x36).toNat : Int))) (heap_setCell_other _ _ _ _ (fun e => hne e.symm)))
  exact this.store hk (fun i _ => kx_next l 0x5c k i)
theorem kx_all (l : List UInt8) (x : UInt8) : (List.range 64).map (kx l x 64) = padB l x := by
 unfold padB
 apply List.map_congr_left
 intro i hi
 unfold kx
 rw [if_pos (List.mem_range.1 hi)]
set_option maxHeartbeats 1600000 in
theorem rtag_short (n1 c1 : Nat) (A1 : Option Addr) (key : List UInt8) (n2 c2 : Nat) (A2 : Option Addr) (b : List UInt8) (w : World) (h1 : Row w w.heap.size A1 n1 (bv key)) (h2 : Row w w.heap.size A2 n2 (bv b)) (hn1 : n1 ≤ 100000) (hn2 : n2 ≤ 100000) (hc : n1 ≤ 64) :
  Calls Tryz.prog 86 #[.slice A1 n1 c1, .slice A2 n2 c2] w (RDOk (tagOf key b) w) := by
 have H1 := Lib.hid h1
 have H2 := Lib.hid h2
 have HL1 := Lib.hid h1.blen
 have HL2 := Lib.hid h2.blen
 clear h1 h2
 obtain ⟨wz, rfl⟩ : ∃ wz : World, wz = w := ⟨_, rfl⟩
 obtain ⟨kk, hkk⟩ : ∃ kk, key = kk := ⟨_, rfl⟩
 have HKE : Hid (keyOf key = kk) := Lib.hid (by unfold keyOf; rw [if_neg (by rw [HL1.out]; omega)]; exact hkk)
 have HK : Hid (Row wz wz.heap.size A1 n1 (bv kk)) := by rw [← hkk]; exact H1
 have HKL : Hid (kk.length = n1) := by rw [← hkk]; exact HL1
 have HB0 : Hid (Below wz.heap.size wz wz) := Lib.hid (Below.refl _ _)
 clear hkk H1
 go_enter Tryz.func86, Tryz.ntmps86
 go_wp2_with fail
 have hm := mk64
 go_upto_region 3 with fail
 go_cut [5, 6] (fun s5 s6 wx => ∃ g1 g2 : Nat, s5 = .slice (some ⟨g1, 0, none⟩) 64 64 ∧ s6 = .slice (some ⟨g2, 0, none⟩) 64 64 ∧ Hid (TwoZ (List.replicate 64 (.int .u8 0)) g1 g2 wz wx))
 case first =>
  go_region
  all_goals
   go_wp2_with fail
   go_meet
   first
    | exact ⟨_, _, rfl, rfl, Lib.hid (two_new (List.replicate 64 (.int .u8 0)) wz.drew).drew⟩
    | exact ⟨_, _, rfl, rfl, Lib.hid (two_new (List.replicate 64 (.int .u8 0)) wz.drew).swap.drew⟩
    | exact ⟨_, _, rfl, rfl, Lib.hid (two_new (List.replicate 64 (.int .u8 0)) wz)⟩
    | exact ⟨_, _, rfl, rfl, Lib.hid (two_new (List.replicate 64 (.int .u8 0)) wz).swap⟩
 case rest =>
  clear hm
  obtain ⟨g1, g2, rfl, rfl, hz⟩ := hcut
  have hne := hz.out.2.2.1
  have hg1 := hz.out.2.2.2.1
  have hg2 := hz.out.2.2.2.2.1
  have hA0 : Hid (TwoK kk 0 g1 g2 wz wc) := by
   obtain ⟨z1, z2, _, _, _, hbx⟩ := hz.out
   refine Lib.hid ⟨⟨_, z1, by simp, fun i hi => ?_⟩, ⟨_, z2, by simp, fun i hi => ?_⟩, hbx⟩
   ·rw [List.getElem?_toArray, List.getElem?_replicate, if_pos hi]; rfl
   ·rw [List.getElem?_toArray, List.getElem?_replicate, if_pos hi]; rfl
  clear hz
  go_wp2_with fail
  go_loopw [16] (fun i wr => ∃ k : Nat, k ≤ 64 ∧ i = .int .i64 k ∧ Hid (TwoK kk k g1 g2 wz wr)) (fun i _ => 64 - (intOf i).toNat)
  case atStart => exact ⟨0, by omega, rfl, hA0⟩
  case round =>
   obtain ⟨k, hk, rfl, hd⟩ := hrel
   clear hA0
   by_cases hlt : k < 64
   ·have hc1 := hd.out.1.at_ hlt
    have hf1 := hd.out.1.frozen k
    have hc2 := hd.out.2.1.at_ hlt
    have hf2 := hd.out.2.1.frozen k
    have hn1 : ¬ g1 = g2 := hne
    have hn2 : ¬ g2 = g1 := fun e => hne e.symm
    have k64 : (k : Int) < 64 := by omega
    by_cases hkn : k < n1
    ·obtain ⟨b1, o1, rfl, _, hl1, hcell⟩ := (HK.out.below hd.out.2.2).byteAt hkn
     have e3 : kk[k] = kk.getD k 0 := by rw [List.getD_eq_getElem?_getD, List.getElem?_eq_getElem hl1]; rfl
     rw [e3] at hcell
     have HX1 := Lib.hid (xor_int (kk.getD k 0) 0x36)
     have HX2 := Lib.hid (xor_int (kk.getD k 0) 0x5c)
     have hD := Lib.hid (hd.out.next hlt hne hg1 hg2 rfl rfl)
     have hki : (k : Int) < (n1 : Int) := by omega
     clear hd e3 hl1
     generalize kk.getD k 0 = y at *
     go_wp2_with fail
     go_roundw
     case rel => exact ⟨k + 1, by omega, by go_num, by first | exact hD | (have e1 := HX1.out; have e2 := HX2.out; simp only [show ((54 : UInt8).toNat : Int) = 54 from rfl, show ((92 : UInt8).toNat : Int) = 92 from rfl] at e1 e2; rw [e1, e2]; exact hD)⟩
     case measure => simp [intOf]; omega
    ·have hz0 : kk.getD k 0 = 0 := by rw [List.getD_eq_getElem?_getD, List.getElem?_eq_none (by have := HKL.out; omega)]; rfl
     have hD := Lib.hid (hd.out.next (x1 := 0x36) (x2 := 0x5c) hlt hne hg1 hg2 (by rw [hz0]; rfl) (by rw [hz0]; rfl))
     have hki : ¬ (k : Int) < (n1 : Int) := by omega
     clear hd hz0
     go_wp2_with fail
     go_roundw
     case rel => exact ⟨k + 1, by omega, by go_num, by exact hD⟩
     case measure => simp [intOf]; omega
   ·obtain rfl : 64 = k := by omega
    clear hlt
    have O1 := Lib.hid (hd.out.1.own hg1 (by unfold maxLen; omega))
    have O2 := Lib.hid (hd.out.2.1.own hg2 (by unfold maxLen; omega))
    rw [kx_all] at O1 O2
    have HBz := Lib.hid hd.out.2.2
    have HBw := Lib.hid (HB0.out.trans (hd.out.2.2.mono HB0.out.size))
    have HR2 := Lib.hid ((H2.out.below HBw.out).more HBw.out.size)
    obtain ⟨wl, rfl⟩ : ∃ wl : World, wl = wr := ⟨_, rfl⟩
    obtain ⟨p1, hp1⟩ : ∃ x, padB kk 0x36 = x := ⟨_, rfl⟩
    obtain ⟨p2, hp2⟩ : ∃ x, padB kk 0x5c = x := ⟨_, rfl⟩
    have HP1 : Hid (p1.length = 64) := by rw [← hp1]; exact Lib.hid (padB_length _ _)
    have HP2 : Hid (p2.length = 64) := by rw [← hp2]; exact Lib.hid (padB_length _ _)
    have HT : Hid (tagOf key b = Sha.D (p2 ++ Sha.D (p1 ++ b))) := Lib.hid (by rw [← hp1, ← hp2, tagOf, HKE.out])
    rw [hp1] at O1
    rw [hp2] at O2
    have R1 := Lib.hid (rows2_two wl ⟨some ⟨g1, 0, none⟩, 64, 64, p1⟩ ⟨A2, n2, c2, b⟩ 22 (Row.of_own O1.out) HR2.out)
    have HJ1 := Lib.hid (join_any (wl.heap.size + 1) 2 2 _ _ _ R1.out (by omega) (by simp [flat]; have h1 := HP1.out; have h2 := HL2.out; omega) (by simp))
    have hfl1 : flat [(⟨some ⟨g1, 0, none⟩, 64, 64, p1⟩ : BRow), ⟨A2, n2, c2, b⟩] = p1 ++ b := by simp [flat]
    rw [hfl1] at HJ1
    have HBa : Hid (Below wz.heap.size wz (wl.alloc (.cells #[.slice (some ⟨g1, 0, none⟩) 64 64, .slice A2 n2 c2] 22))) := Lib.hid (HBw.out.alloc HBw.out.size _)
    have HBq : Hid (Below wl.heap.size wl (wl.alloc (.cells #[.slice (some ⟨g1, 0, none⟩) 64 64, .slice A2 n2 c2] 22))) := Lib.hid ((Below.refl _ _).alloc (Nat.le_refl _) _)
    clear hd hp1 hp2 R1 hfl1 HR2
    go_wp2_with fail
    refine HJ1.out.mono ?_
    rintro e w2 ⟨A3, n3, c3, rfl, hn3, ho3, hb3⟩
    have hn3' : n3 ≤ 100000000 := by have h := hn3.out; rw [List.length_append, HP1.out, HL2.out] at h; omega
    have HB2 := Lib.hid (HBa.out.trans (hb3.mono HBa.out.size))
    have HBq2 := Lib.hid (HBq.out.trans (hb3.mono HBq.out.size))
    have HD1 := Lib.hid (rdig_any w2.heap.size n3 c3 A3 (p1 ++ b) w2 (Row.of_own ho3) (Nat.le_refl _) hn3')
    clear hn3 ho3 hb3 hn3' HJ1
    go_wp2_with fail
    refine HD1.out.mono ?_
    rintro e w4 ⟨A4, c4, rfl, ho4, hb4⟩
    have HB4 := Lib.hid (HB2.out.trans (hb4.out.mono HB2.out.size))
    have HBq4 := Lib.hid (HBq2.out.trans (hb4.out.mono HBq2.out.size))
    obtain ⟨d1, hd1⟩ : ∃ x, Sha.D (p1 ++ b) = x := ⟨_, rfl⟩
    have HLD : Hid (d1.length = 32) := by rw [← hd1]; exact Lib.hid (Sha.D_length _)
    rw [hd1] at ho4
    have HT2 : Hid (tagOf key b = Sha.D (p2 ++ d1)) := by rw [← hd1]; exact HT
    have R2 := Lib.hid (rows2_two w4 ⟨some ⟨g2, 0, none⟩, 64, 64, p2⟩ ⟨A4, 32, c4, d1⟩ 22 (Row.of_own (own_below O2.out HBq4.out)) (Row.of_own ho4.out))
    have HJ2 := Lib.hid (join_any (w4.heap.size + 1) 2 2 _ _ _ R2.out (by omega) (by simp [flat]; have h1 := HP2.out; have h2 := HLD.out; omega) (by simp))
    have hfl2 : flat [(⟨some ⟨g2, 0, none⟩, 64, 64, p2⟩ : BRow), ⟨A4, 32, c4, d1⟩] = p2 ++ d1 := by simp [flat]
    rw [hfl2] at HJ2
    have HBa2 : Hid (Below wz.heap.size wz (w4.alloc (.cells #[.slice (some ⟨g2, 0, none⟩) 64 64, .slice A4 32 c4] 22))) := Lib.hid (HB4.out.alloc HB4.out.size _)
    clear ho4 hb4 R2 hfl2 hd1 HD1 HT O1 O2
    go_wp2_with fail
    refine HJ2.out.mono ?_
    rintro e w5 ⟨A5, n5, c5, rfl, hn5, ho5, hb5⟩
    have hn5' : n5 ≤ 100000000 := by have h := hn5.out; rw [List.length_append, HP2.out, HLD.out] at h; omega
    have HB5 := Lib.hid (HBa2.out.trans (hb5.mono HBa2.out.size))
    have HD2 := Lib.hid (rdig_any w5.heap.size n5 c5 A5 (p2 ++ d1) w5 (Row.of_own ho5) (Nat.le_refl _) hn5')
    clear hn5 ho5 hb5 hn5' HJ2
    go_wp2_with fail
    refine HD2.out.mono ?_
    rintro e w6 ⟨A6, c6, rfl, ho6, hb6⟩
    have HB6 := Lib.hid (HB5.out.trans (hb6.out.mono HB5.out.size))
    have HFIN := Lib.hid (own_base ho6.out HB5.out.size)
    rw [← HT2.out] at HFIN
    clear ho6 hb6
    go_wp2_with fail
    go_ret
    exact ⟨A6, c6, rfl, HFIN, HB6⟩
set_option maxHeartbeats 1600000 in
theorem rtag_long (n1 c1 : Nat) (A1 : Option Addr) (key : List UInt8) (n2 c2 : Nat) (A2 : Option Addr) (b : List UInt8) (w : World) (h1 : Row w w.heap.size A1 n1 (bv key)) (h2 : Row w w.heap.size A2 n2 (bv b)) (hn1 : n1 ≤ 100000) (hn2 : n2 ≤ 100000) (hc : 64 < n1) :
  Calls Tryz.prog 86 #[.slice A1 n1 c1, .slice A2 n2 c2] w (RDOk (tagOf key b) w) := by
 have H1 := Lib.hid h1
 have H2 := Lib.hid h2
 have HL1 := Lib.hid h1.blen
 have HL2 := Lib.hid h2.blen
 clear h1 h2
 have HD0 := Lib.hid (rdig_any w.heap.size n1 c1 A1 key w H1.out (Nat.le_refl _) (by omega))
 obtain ⟨kk, hkk⟩ : ∃ kk, Sha.D key = kk := ⟨_, rfl⟩
 have HKE : Hid (keyOf key = kk) := Lib.hid (by unfold keyOf; rw [if_pos (by rw [HL1.out]; omega)]; exact hkk)
 have HKL : Hid (kk.length = 32) := by rw [← hkk]; exact Lib.hid (Sha.D_length _)
 rw [hkk] at HD0
 clear hkk H1
 go_enter Tryz.func86, Tryz.ntmps86
 go_wp2_with fail
 refine HD0.out.mono ?_
 rintro e W0 ⟨AK, cK, rfl, hoK, hbK⟩
 have HK := Lib.hid (Row.of_own hoK.out)
 have HB0 := hbK
 clear hoK hbK HD0
 go_wp2_with fail
 obtain ⟨wz, rfl⟩ : ∃ wz : World, wz = W0 := ⟨_, rfl⟩
 have hm := mk64
 go_upto_region 3 with fail
 go_cut [5, 6] (fun s5 s6 wx => ∃ g1 g2 : Nat, s5 = .slice (some ⟨g1, 0, none⟩) 64 64 ∧ s6 = .slice (some ⟨g2, 0, none⟩) 64 64 ∧ Hid (TwoZ (List.replicate 64 (.int .u8 0)) g1 g2 wz wx))
 case first =>
  go_region
  all_goals
   go_wp2_with fail
   go_meet
   first
    | exact ⟨_, _, rfl, rfl, Lib.hid (two_new (List.replicate 64 (.int .u8 0)) wz.drew).drew⟩
    | exact ⟨_, _, rfl, rfl, Lib.hid (two_new (List.replicate 64 (.int .u8 0)) wz.drew).swap.drew⟩
    | exact ⟨_, _, rfl, rfl, Lib.hid (two_new (List.replicate 64 (.int .u8 0)) wz)⟩
    | exact ⟨_, _, rfl, rfl, Lib.hid (two_new (List.replicate 64 (.int .u8 0)) wz).swap⟩
 case rest =>
  clear hm
  obtain ⟨g1, g2, rfl, rfl, hz⟩ := hcut
  have hne := hz.out.2.2.1
  have hg1 := hz.out.2.2.2.1
  have hg2 := hz.out.2.2.2.2.1
  have hA0 : Hid (TwoK kk 0 g1 g2 wz wc) := by
   obtain ⟨z1, z2, _, _, _, hbx⟩ := hz.out
   refine Lib.hid ⟨⟨_, z1, by simp, fun i hi => ?_⟩, ⟨_, z2, by simp, fun i hi => ?_⟩, hbx⟩
   ·rw [List.getElem?_toArray, List.getElem?_replicate, if_pos hi]; rfl
   ·rw [List.getElem?_toArray, List.getElem?_replicate, if_pos hi]; rfl
  clear hz
  go_wp2_with fail
  go_loopw [16] (fun i wr => ∃ k : Nat, k ≤ 64 ∧ i = .int .i64 k ∧ Hid (TwoK kk k g1 g2 wz wr)) (fun i _ => 64 - (intOf i).toNat)
  case atStart => exact ⟨0, by omega, rfl, hA0⟩
  case round =>
   obtain ⟨k, hk, rfl, hd⟩ := hrel
   clear hA0
   by_cases hlt : k < 64
   ·have hc1 := hd.out.1.at_ hlt
    have hf1 := hd.out.1.frozen k
    have hc2 := hd.out.2.1.at_ hlt
    have hf2 := hd.out.2.1.frozen k
    have hn1 : ¬ g1 = g2 := hne
    have hn2 : ¬ g2 = g1 := fun e => hne e.symm
    have k64 : (k : Int) < 64 := by omega
    by_cases hkn : k < 32
    ·obtain ⟨b1, o1, rfl, _, hl1, hcell⟩ := (HK.out.below hd.out.2.2).byteAt hkn
     have e3 : kk[k] = kk.getD k 0 := by rw [List.getD_eq_getElem?_getD, List.getElem?_eq_getElem hl1]; rfl
     rw [e3] at hcell
     have HX1 := Lib.hid (xor_int (kk.getD k 0) 0x36)
     have HX2 := Lib.hid (xor_int (kk.getD k 0) 0x5c)
     have hD := Lib.hid (hd.out.next hlt hne hg1 hg2 rfl rfl)
     have hki : (k : Int) < (32 : Int) := by omega
     clear hd e3 hl1
     generalize kk.getD k 0 = y at *
     go_wp2_with fail
     go_roundw
     case rel => exact ⟨k + 1, by omega, by go_num, by first | exact hD | (have e1 := HX1.out; have e2 := HX2.out; simp only [show ((54 : UInt8).toNat : Int) = 54 from rfl, show ((92 : UInt8).toNat : Int) = 92 from rfl] at e1 e2; rw [e1, e2]; exact hD)⟩
     case measure => simp [intOf]; omega
    ·have hz0 : kk.getD k 0 = 0 := by rw [List.getD_eq_getElem?_getD, List.getElem?_eq_none (by have := HKL.out; omega)]; rfl
     have hD := Lib.hid (hd.out.next (x1 := 0x36) (x2 := 0x5c) hlt hne hg1 hg2 (by rw [hz0]; rfl) (by rw [hz0]; rfl))
     have hki : ¬ (k : Int) < (32 : Int) := by omega
     clear hd hz0
     go_wp2_with fail
     go_roundw
     case rel => exact ⟨k + 1, by omega, by go_num, by exact hD⟩
     case measure => simp [intOf]; omega
   ·obtain rfl : 64 = k := by omega
    clear hlt
    have O1 := Lib.hid (hd.out.1.own hg1 (by unfold maxLen; omega))
    have O2 := Lib.hid (hd.out.2.1.own hg2 (by unfold maxLen; omega))
    rw [kx_all] at O1 O2
    have HBz := Lib.hid hd.out.2.2
    have HBw := Lib.hid (HB0.out.trans (hd.out.2.2.mono HB0.out.size))
    have HR2 := Lib.hid ((H2.out.below HBw.out).more HBw.out.size)
    obtain ⟨wl, rfl⟩ : ∃ wl : World, wl = wr := ⟨_, rfl⟩
    obtain ⟨p1, hp1⟩ : ∃ x, padB kk 0x36 = x := ⟨_, rfl⟩
    obtain ⟨p2, hp2⟩ : ∃ x, padB kk 0x5c = x := ⟨_, rfl⟩
    have HP1 : Hid (p1.length = 64) := by rw [← hp1]; exact Lib.hid (padB_length _ _)
    have HP2 : Hid (p2.length = 64) := by rw [← hp2]; exact Lib.hid (padB_length _ _)
    have HT : Hid (tagOf key b = Sha.D (p2 ++ Sha.D (p1 ++ b))) := Lib.hid (by rw [← hp1, ← hp2, tagOf, HKE.out])
    rw [hp1] at O1
    rw [hp2] at O2
    have R1 := Lib.hid (rows2_two wl ⟨some ⟨g1, 0, none⟩, 64, 64, p1⟩ ⟨A2, n2, c2, b⟩ 22 (Row.of_own O1.out) HR2.out)
    have HJ1 := Lib.hid (join_any (wl.heap.size + 1) 2 2 _ _ _ R1.out (by omega) (by simp [flat]; have h1 := HP1.out; have h2 := HL2.out; omega) (by simp))
    have hfl1 : flat [(⟨some ⟨g1, 0, none⟩, 64, 64, p1⟩ : BRow), ⟨A2, n2, c2, b⟩] = p1 ++ b := by simp [flat]
    rw [hfl1] at HJ1
    have HBa : Hid (Below w.heap.size w (wl.alloc (.cells #[.slice (some ⟨g1, 0, none⟩) 64 64, .slice A2 n2 c2] 22))) := Lib.hid (HBw.out.alloc HBw.out.size _)
    have HBq : Hid (Below wl.heap.size wl (wl.alloc (.cells #[.slice (some ⟨g1, 0, none⟩) 64 64, .slice A2 n2 c2] 22))) := Lib.hid ((Below.refl _ _).alloc (Nat.le_refl _) _)
    clear hd hp1 hp2 R1 hfl1 HR2
    go_wp2_with fail
    refine HJ1.out.mono ?_
    rintro e w2 ⟨A3, n3, c3, rfl, hn3, ho3, hb3⟩
    have hn3' : n3 ≤ 100000000 := by have h := hn3.out; rw [List.length_append, HP1.out, HL2.out] at h; omega
    have HB2 := Lib.hid (HBa.out.trans (hb3.mono HBa.out.size))
    have HBq2 := Lib.hid (HBq.out.trans (hb3.mono HBq.out.size))
    have HD1 := Lib.hid (rdig_any w2.heap.size n3 c3 A3 (p1 ++ b) w2 (Row.of_own ho3) (Nat.le_refl _) hn3')
    clear hn3 ho3 hb3 hn3' HJ1
    go_wp2_with fail
    refine HD1.out.mono ?_
    rintro e w4 ⟨A4, c4, rfl, ho4, hb4⟩
    have HB4 := Lib.hid (HB2.out.trans (hb4.out.mono HB2.out.size))
    have HBq4 := Lib.hid (HBq2.out.trans (hb4.out.mono HBq2.out.size))
    obtain ⟨d1, hd1⟩ : ∃ x, Sha.D (p1 ++ b) = x := ⟨_, rfl⟩
    have HLD : Hid (d1.length = 32) := by rw [← hd1]; exact Lib.hid (Sha.D_length _)
    rw [hd1] at ho4
    have HT2 : Hid (tagOf key b = Sha.D (p2 ++ d1)) := by rw [← hd1]; exact HT
    have R2 := Lib.hid (rows2_two w4 ⟨some ⟨g2, 0, none⟩, 64, 64, p2⟩ ⟨A4, 32, c4, d1⟩ 22 (Row.of_own (own_below O2.out HBq4.out)) (Row.of_own ho4.out))
    have HJ2 := Lib.hid (join_any (w4.heap.size + 1) 2 2 _ _ _ R2.out (by omega) (by simp [flat]; have h1 := HP2.out; have h2 := HLD.out; omega) (by simp))
    have hfl2 : flat [(⟨some ⟨g2, 0, none⟩, 64, 64, p2⟩ : BRow), ⟨A4, 32, c4, d1⟩] = p2 ++ d1 := by simp [flat]
    rw [hfl2] at HJ2
    have HBa2 : Hid (Below w.heap.size w (w4.alloc (.cells #[.slice (some ⟨g2, 0, none⟩) 64 64, .slice A4 32 c4] 22))) := Lib.hid (HB4.out.alloc HB4.out.size _)
    clear ho4 hb4 R2 hfl2 hd1 HD1 HT O1 O2
    go_wp2_with fail
    refine HJ2.out.mono ?_
    rintro e w5 ⟨A5, n5, c5, rfl, hn5, ho5, hb5⟩
    have hn5' : n5 ≤ 100000000 := by have h := hn5.out; rw [List.length_append, HP2.out, HLD.out] at h; omega
    have HB5 := Lib.hid (HBa2.out.trans (hb5.mono HBa2.out.size))
    have HD2 := Lib.hid (rdig_any w5.heap.size n5 c5 A5 (p2 ++ d1) w5 (Row.of_own ho5) (Nat.le_refl _) hn5')
    clear hn5 ho5 hb5 hn5' HJ2
    go_wp2_with fail
    refine HD2.out.mono ?_
    rintro e w6 ⟨A6, c6, rfl, ho6, hb6⟩
    have HB6 := Lib.hid (HB5.out.trans (hb6.out.mono HB5.out.size))
    have HFIN := Lib.hid (own_base ho6.out HB5.out.size)
    rw [← HT2.out] at HFIN
    clear ho6 hb6
    go_wp2_with fail
    go_ret
    exact ⟨A6, c6, rfl, HFIN, HB6⟩
theorem rtag_any (n1 c1 : Nat) (A1 : Option Addr) (key : List UInt8) (n2 c2 : Nat) (A2 : Option Addr) (b : List UInt8) (w : World) (h1 : Row w w.heap.size A1 n1 (bv key)) (h2 : Row w w.heap.size A2 n2 (bv b)) (hn1 : n1 ≤ 100000) (hn2 : n2 ≤ 100000) :
  Calls Tryz.prog 86 #[.slice A1 n1 c1, .slice A2 n2 c2] w (RDOk (tagOf key b) w) := by
 by_cases h : 64 < n1
 ·exact rtag_long n1 c1 A1 key n2 c2 A2 b w h1 h2 hn1 hn2 h
 ·exact rtag_short n1 c1 A1 key n2 c2 A2 b w h1 h2 hn1 hn2 (by omega)
end Go.Proofs.YtmncpgfdpcckpaaGreatDoor.Sh
namespace Go.Proofs.YtmncpgfdpcckpaaGreatDoor
open Go.RowKit Sh
set_option maxHeartbeats 1600000 in
theorem rbytes_yes {cs : Array Value} {M : LMan} {w : World} {P : Nat → Prop} (A : Option Addr) (n c : Nat) (key : List UInt8) (hk : Row w w.heap.size A n (bv key)) (hn : n ≤ 100000) (h : IsMan w P cs M) (hm : M.may = true) (hw : M.w32) :
  Calls Tryz.prog 52 #[.slice A n c, .agg cs] w (RPlainOk (M.bytes ++ tagOf key M.bytes) w) := by
 have X0 := Lib.hid (heap_alloc_new w (.cells cs 37))
 have B0 : Hid (Below w.heap.size w (w.alloc (.cells cs 37))) := Lib.hid ((Below.refl _ _).alloc (Nat.le_refl _) _)
 have I := Lib.hid h.inf
 have HM := Lib.hid (h.below ((Below.refl w.heap.size w).alloc (Nat.le_refl _) (.cells cs 37)))
 have HK := Lib.hid (RowP.of_row ((hk.below B0.out).more B0.out.size))
 have HF := Lib.hid hm
 have HW := Lib.hid hw
 have HN := Lib.hid hn
 have HL : Hid (M.bytes.length = 44) := Lib.hid (by rw [bytes_len, may_32 hm])
 clear h hm hk hw hn
 go_enter Tryz.func52, Tryz.ntmps52
 go_wp2_with ((with_reducible show wpList _ _ _ _ _ _); refine wpList_load_row (o := ⟨some 9, _, _, _, _, _⟩) rfl _ (.tmp 3) rfl (w.heap.size) rfl _ _ _ _ X0.out Tryz.underlying37 rfl I.out ?_)
 generalize w.alloc (.cells cs 37) = w0 at *
 refine (rplainS_yes HM.out HF.out HW.out.1 HW.out.2).mono ?_
 rintro e w1 ⟨A1, n1, c1, rfl, hn1, ho1, hb1⟩
 have B1 := Lib.hid (B0.out.trans (hb1.out.mono B0.out.size))
 have R1 := Lib.hid (RowP.of_row (Row.of_own ho1.out))
 have K1 := Lib.hid (HK.out.below hb1.out)
 have N1 : Hid (n1 = 44) := Lib.hid (by rw [hn1.out, HL.out])
 clear hn1 ho1 hb1 X0 B0
 go_wp2_with fail
 refine (rtag_any n c A key n1 c1 A1 M.bytes w1 K1.out.row R1.out.row HN.out (by have := N1.out; omega)).mono ?_
 rintro e w2 ⟨A2, c2, rfl, ho2, hb2⟩
 have B2 := Lib.hid (B1.out.trans (hb2.out.mono B1.out.size))
 have R2 := Lib.hid (RowP.of_row (Row.of_own ho2.out))
 have R1b := Lib.hid (R1.out.below hb2.out)
 clear ho2 hb2
 have X2 := Lib.hid (heap_alloc_new w2 (.cells #[.slice A1 n1 c1, .slice A2 32 c2] 22))
 have ba : Below w2.heap.size w2 (w2.alloc (.cells #[.slice A1 n1 c1, .slice A2 32 c2] 22)) := (Below.refl _ _).alloc (Nat.le_refl _) _
 have B3 := Lib.hid (B2.out.trans (ba.mono B2.out.size))
 have R3 := Lib.hid (R2.out.below ba)
 have R1c := Lib.hid (R1b.out.below ba)
 clear ba
 have TL : Hid ((tagOf key M.bytes).length = 32) := Lib.hid (by have := R2.out.1; rwa [bv_length] at this)
 go_wp2_with fail
 generalize w2.alloc (.cells #[.slice A1 n1 c1, .slice A2 32 c2] 22) = w3 at *
 refine (join_box [⟨A1, n1, c1, M.bytes⟩, ⟨A2, 32, c2, tagOf key M.bytes⟩] 2 rfl rfl X2.out (by
  intro r hr
  simp only [List.mem_cons, List.not_mem_nil, or_false] at hr
  rcases hr with rfl | rfl
  ·exact R1c.out
  ·exact R3.out) (by simp) (by have h1 := HL.out; have h2 := TL.out; simp [flat, h1, h2]) (l := M.bytes ++ tagOf key M.bytes) (by simp [flat])).mono ?_
 rintro e w4 ⟨A4, n4, c4, rfl, hn4, ho4, hb4⟩
 have hend := B3.out.trans (hb4.mono B3.out.size)
 have hown := own_base ho4 B3.out.size
 clear hb4
 go_wp2_with fail
 go_ret2
 exact ⟨_, _, _, rfl, hn4, Lib.hid hown, Lib.hid hend⟩
end Go.Proofs.YtmncpgfdpcckpaaGreatDoor
