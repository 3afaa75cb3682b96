/- The reference's Wrap: by contract. -/
import Derived.Lib.SlBytesConst
import Derived.BigQuiet
import Derived.WalkSpells
import Derived.WalkLawsBesides
import Derived.Deep.RegionHeld3
import Derived.Deep.QuietTactic
import Derived.Test.YtmncpgfdpcckpaaGreatDoorZUQN
import Derived.Test.YtmncpgfdpcckpaaGreatDoorZWQN
import Derived.Test.YtmncpgfdpcckpaaGreatDoorZAQN
import Derived.Test.YtmncpgfdpcckpaaGreatDoorZRQN
set_option maxRecDepth 100000
namespace Go.Proofs.YtmncpgfdpcckpaaGreatDoor
open Go.RowKit
open FrM (flen inner frame)
theorem two_cells (n : Nat) (h : n ≤ 291) : [Value.int .u8 ((n : Int) / 256), Value.int .u8 ((n : Int) % 256)] = bv [UInt8.ofNat (n / 256), UInt8.ofNat n] := by
 simp [bv]
 omega
theorem two_any (n : Nat) (h : n ≤ 291) (w : World) : Calls Tryz.prog 87 #[.int .i64 (n : Int)] w (FreshBytes w.heap.size [UInt8.ofNat (n / 256), UInt8.ofNat n] w) := by
 go_enter Tryz.func87, Tryz.ntmps87
 go_wp2_with fail
 go_ret
 refine ⟨some ⟨w.heap.size, 0, none⟩, 2, 2, rfl, rfl, ?_, (Below.refl _ _).alloc (Nat.le_refl _) _⟩
 rw [← two_cells n h]
 exact own_lit _ rfl (Nat.le_refl _) rfl (by unfold maxLen; omega)
set_option maxHeartbeats 800000 in
theorem r7wrap_ok (k : UInt8) (B n cap : Nat) (A : Option Addr) (l : List UInt8) (w : World) (hl : Row w B A n (bv l)) (hn : n ≤ 291) (hB : B ≤ w.heap.size) :
  Calls Tryz.prog 54 #[.int .i64 (k.toNat : Int), .slice A n cap] w (WrapOk (frame k l) w) := by
 have hk0 : (0 : Int) ≤ (k.toNat : Int) := by omega
 have hk1 : (k.toNat : Int) ≤ 255 := by have := CrcM.b_lt k; omega
 have hkm : (k.toNat : Int) % 256 = (k.toNat : Int) := by omega
 have HBL := Lib.hid hl.blen
 have hr0 : Row (w.alloc (.cells #[.int .u8 (k.toNat : Int)] 5)) (w.heap.size + 1) (some ⟨w.heap.size, 0, none⟩) 1 (bv [k]) := row_new w #[.int .u8 (k.toNat : Int)] 5 (0, 0)
 have hba : Below w.heap.size w (w.alloc (.cells #[.int .u8 (k.toNat : Int)] 5)) := (Below.refl _ _).alloc (Nat.le_refl _) _
 have hr1 : Row (w.alloc (.cells #[.int .u8 (k.toNat : Int)] 5)) B A n (bv l) := hl.below (hba.mono hB)
 have hsz : (w.alloc (.cells #[.int .u8 (k.toNat : Int)] 5)).heap.size = w.heap.size + 1 := by simp
 have HX : Hid (Row (w.alloc (.cells #[.int .u8 (k.toNat : Int)] 5)) (w.heap.size + 1) (some ⟨w.heap.size, 0, none⟩) 1 (bv [k]) ∧ Row (w.alloc (.cells #[.int .u8 (k.toNat : Int)] 5)) B A n (bv l) ∧ Below w.heap.size w (w.alloc (.cells #[.int .u8 (k.toNat : Int)] 5)) ∧ (w.alloc (.cells #[.int .u8 (k.toNat : Int)] 5)).heap.size = w.heap.size + 1) := ⟨hr0, hr1, hba, hsz⟩
 clear hr0 hr1 hba hsz
 go_enter Tryz.func54, Tryz.ntmps54
 go_wp2_with fail
 generalize w.alloc (.cells #[.int .u8 (k.toNat : Int)] 5) = wa at *
 obtain ⟨x0, x1, x2, x3⟩ := HX.out
 refine (two_any n hn wa).mono ?_
 rintro e w1 ⟨A1, n1, c1, rfl, hn1, hown1, hb1⟩
 obtain rfl : n1 = 2 := hn1.out
 have hs1 : w.heap.size + 1 ≤ w1.heap.size := by have := hb1.size; omega
 have HJ : Hid (Rows2 (w1.alloc (.cells #[.slice (some ⟨w.heap.size, 0, none⟩) 1 1, .slice A1 2 c1, .slice A n cap] 22)) (w1.heap.size + 1) (some ⟨w1.heap.size, 0, none⟩) 3 [⟨some ⟨w.heap.size, 0, none⟩, 1, 1, [k]⟩, ⟨A1, 2, c1, [UInt8.ofNat (n / 256), UInt8.ofNat n]⟩, ⟨A, n, cap, l⟩]) := by
  refine ⟨row_new w1 #[.slice (some ⟨w.heap.size, 0, none⟩) 1 1, .slice A1 2 c1, .slice A n cap] 22 (0, 0), fun r hr => ?_⟩
  simp at hr
  rcases hr with rfl | rfl | rfl
  ·exact (((x0.below (hb1.mono (by omega))).alloc (by omega) _).more (by omega))
  ·exact (((Row.of_own hown1).alloc (Nat.le_refl _) _).more (by omega))
  ·exact (((x1.below (hb1.mono (by omega))).alloc (by omega) _).more (by omega))
 have hfl : flat [(⟨some ⟨w.heap.size, 0, none⟩, 1, 1, [k]⟩ : BRow), ⟨A1, 2, c1, [UInt8.ofNat (n / 256), UInt8.ofNat n]⟩, ⟨A, n, cap, l⟩] = inner k l := by
  simp [flat, inner, HBL.out]
 have HFLA := Lib.hid hfl
 have hil : (inner k l).length = n + 3 := by rw [FrM.inner_length, HBL.out]
 have HIL := Lib.hid hil
 have HB1 : Hid (Below w.heap.size w w1) := x2.trans (hb1.mono x2.size)
 have HS1 := Lib.hid hs1
 clear x0 x1 x2 x3 hown1 hb1 hn1 HX hfl hil hs1
 go_wp2_with fail
 refine (join_any (w1.heap.size + 1) 3 3 _ _ _ HJ.out (by omega) (by rw [HFLA.out, HIL.out]; omega) (by simp)).mono ?_
 rw [HFLA.out]
 rintro e w2 ⟨A2, n2, c2, rfl, hn2, hown2, hb2⟩
 have hbJ : Below w1.heap.size w1 w2 := ((Below.refl _ _).alloc (Nat.le_refl _) _).trans (hb2.mono (by simp))
 have HB2 : Hid (Below w.heap.size w w2) := HB1.out.trans (hbJ.mono (by have := HS1.out; omega))
 obtain rfl : n2 = n + 3 := hn2.out.trans HIL.out
 have hbb : Below w2.heap.size w2 (w2.alloc (.cells #[.int .u8 68, .int .u8 80] 5 (2, 3))) := (Below.refl _ _).alloc (Nat.le_refl _) _
 have HY : Hid (Row (w2.alloc (.cells #[.int .u8 68, .int .u8 80] 5 (2, 3))) (w2.heap.size + 1) (some ⟨w2.heap.size, 0, none⟩) 2 (bv [68, 80]) ∧ Row (w2.alloc (.cells #[.int .u8 68, .int .u8 80] 5 (2, 3))) (w2.heap.size + 1) A2 (n + 3) (bv (inner k l)) ∧ (w2.alloc (.cells #[.int .u8 68, .int .u8 80] 5 (2, 3))).heap.size = w2.heap.size + 1 ∧ Below w2.heap.size w2 (w2.alloc (.cells #[.int .u8 68, .int .u8 80] 5 (2, 3)))) :=
  ⟨row_new w2 #[.int .u8 68, .int .u8 80] 5 (2, 3), ((Row.of_own hown2).below hbb).more (by omega), by simp, hbb⟩
 have hnk : (inner k l).length ≤ 300 := by rw [HIL.out]; omega
 have HNK := Lib.hid hnk
 have hPL : (CrcM.put (inner k l)).length = n + 7 := by rw [CrcM.put_length, HIL.out]
 have HPL := Lib.hid hPL
 have hff : flat [(⟨some ⟨w2.heap.size, 0, none⟩, 2, 2, [68, 80]⟩ : BRow), ⟨none, 0, 0, CrcM.put (inner k l)⟩] = frame k l := by
  simp [flat, frame]
 have HFF : Hid (∀ A3 n3 c3, flat [(⟨some ⟨w2.heap.size, 0, none⟩, 2, 2, [68, 80]⟩ : BRow), ⟨A3, n3, c3, CrcM.put (inner k l)⟩] = frame k l) := fun _ _ _ => by
  rw [← hff]; simp [flat]
 have HFRL : Hid ((frame k l).length = n + 9) := by show _ = _; rw [FrM.frame_length, HBL.out]
 clear hbb hown2 hb2 hn2 hbJ HJ HFLA HB1 HS1 hnk hPL hff HIL
 have hcv : (convert 22 22 (.slice (some ⟨w2.heap.size, 0, none⟩) 2 2)).run Tryz.prog (w2.alloc (.cells #[.int .u8 68, .int .u8 80] 5)) = .ok (.slice (some ⟨w2.heap.size, 0, none⟩) 2 2) (w2.alloc (.cells #[.int .u8 68, .int .u8 80] 5 (2, 3))) :=
  Lib.run_convert_bytes_const (P := Tryz.prog) w2 22 5 #[.int .u8 68, .int .u8 80] 2 2 Tryz.underlying22 Tryz.underlying5
 go_wp2_with fail
 clear hcv
 generalize w2.alloc (.cells #[.int .u8 68, .int .u8 80] 5 (2, 3)) = wb at *
 obtain ⟨y0, y1, y2, y3⟩ := HY.out
 refine (r1put_any (w2.heap.size + 1) (n + 3) c2 A2 (inner k l) wb y1 (by omega) (by omega)).mono ?_
 rintro e w3 ⟨A3, n3, c3, rfl, hn3, hown3, hb3⟩
 have hs3 : w2.heap.size + 1 ≤ w3.heap.size := by have := hb3.size; omega
 have HJ : Hid (Rows2 (w3.alloc (.cells #[.slice (some ⟨w2.heap.size, 0, none⟩) 2 2, .slice A3 n3 c3] 22)) (w3.heap.size + 1) (some ⟨w3.heap.size, 0, none⟩) 2 [⟨some ⟨w2.heap.size, 0, none⟩, 2, 2, [68, 80]⟩, ⟨A3, n3, c3, CrcM.put (inner k l)⟩]) := by
  refine ⟨row_new w3 #[.slice (some ⟨w2.heap.size, 0, none⟩) 2 2, .slice A3 n3 c3] 22 (0, 0), fun r hr => ?_⟩
  simp at hr
  rcases hr with rfl | rfl
  ·exact (((y0.below (hb3.mono (by omega))).alloc (by omega) _).more (by omega))
  ·exact (((Row.of_own hown3).alloc (Nat.le_refl _) _).more (by omega))
 have HB3 : Hid (Below w.heap.size w w3) := (HB2.out.trans (y3.mono HB2.out.size)).trans (hb3.mono (by have := HB2.out.size; omega))
 clear y0 y1 y2 y3 HY hown3 hb3 hs3 hn3
 go_wp2_with fail
 refine (join_any (w3.heap.size + 1) 2 2 _ _ _ HJ.out (by omega) (by rw [HFF.out, HFRL.out]; omega) (by simp)).mono ?_
 rw [HFF.out]
 rintro e w4 ⟨A4, n4, c4, rfl, hn4, hown4, hb4⟩
 have HB4 : Hid (Below w.heap.size w w4) := HB3.out.trans ((((Below.refl _ _).alloc (Nat.le_refl _) _).trans (hb4.mono (by simp))).mono HB3.out.size)
 have HO4 := Lib.hid (own_base hown4 (base' := w.heap.size) (by have := HB3.out.size; simp; omega))
 clear hown4 hb4
 go_wp2_with fail
 go_ret2
 exact ⟨A4, n4, c4, rfl, hn4, HO4.out, HB4.out⟩
end Go.Proofs.YtmncpgfdpcckpaaGreatDoor
namespace Go.Proofs.YtmncpgfdpcckpaaGreatDoor.Sh
open Go.RowKit
def TwoZ (Z : List Value) (g1 g2 : Nat) (w wx : World) : Prop :=
 wx.heap[g1]? = some (.cells Z.toArray 5 (0, 0)) ∧ wx.heap[g2]? = some (.cells Z.toArray 5 (0, 0)) ∧ g1 ≠ g2 ∧ w.heap.size ≤ g1 ∧ w.heap.size ≤ g2 ∧ Below w.heap.size w wx
theorem two_new (Z : List Value) (w : World) : TwoZ Z w.heap.size (w.heap.size + 1) w ((w.alloc (.cells Z.toArray 5)).alloc (.cells Z.toArray 5)) :=
 ⟨heap_alloc2_old w _ _, heap_alloc2_new w _ _, by omega, Nat.le_refl _, by omega, ((Below.refl _ _).alloc (Nat.le_refl _) _).alloc (by simp) _⟩
theorem TwoZ.swap {Z : List Value} {g1 g2 : Nat} {w wx : World} (h : TwoZ Z g1 g2 w wx) : TwoZ Z g2 g1 w wx := ⟨h.2.1, h.1, h.2.2.1.symm, h.2.2.2.2.1, h.2.2.2.1, h.2.2.2.2.2⟩
theorem TwoZ.drew {Z : List Value} {g1 g2 : Nat} {w wx : World} (h : TwoZ Z g1 g2 w.drew wx) : TwoZ Z g1 g2 w wx := ⟨h.1, h.2.1, h.2.2.1, h.2.2.2.1, h.2.2.2.2.1, (Below.refl _ _).drew.trans h.2.2.2.2.2⟩
end Go.Proofs.YtmncpgfdpcckpaaGreatDoor.Sh
