/- The tied card of downpourlaw11.CodeImages. -/
import Derived.Test.YtlpmammagebkfaaDoorZ9
namespace Go.Proofs.YtlpmammagebkfaaDoor.Cd
open Go.RowKit
open VecM RdM Vc Sp Pc
/-- four cells in a box below what is one's own -/
theorem own_set4 {w : World} {base b n : Nat} {e : TypeId} {v : Value} {xs : List Value} (h : w.ownsRow base e 1 v n xs) (hb : b < base) (v0 v1 v2 v3 : Value) : ((((w.setCell ⟨b, 0, none⟩ v0).setCell ⟨b, 1, none⟩ v1).setCell ⟨b, 2, none⟩ v2).setCell ⟨b, 3, none⟩ v3).ownsRow base e 1 v n xs := by
  have hbo : ∀ g, v.ownBlock = some g → some b ≠ some g := fun g e => by
    have h1 := (h.lt g e).1
    intro h; injection h with h; omega
  exact own_grown (own_grown (own_grown (own_grown h (grown_set1 w b 0 v0) hbo) (grown_set1 _ b 1 v1) hbo) (grown_set1 _ b 2 v2) hbo) (grown_set1 _ b 3 v3) hbo
theorem below_set4 {w w1 : World} {B b : Nat} (h : Below B w w1) (hb : B ≤ b) (v0 v1 v2 v3 : Value) : Below B w ((((w1.setCell ⟨b, 0, none⟩ v0).setCell ⟨b, 1, none⟩ v1).setCell ⟨b, 2, none⟩ v2).setCell ⟨b, 3, none⟩ v3) :=
  (((h.setCell hb _).setCell hb _).setCell hb _).setCell hb _
theorem count_zero (Z : Int) : BlkM.count 0 Z = 0 := by
  unfold BlkM.count
  rw [if_pos (by omega)]
set_option maxRecDepth 100000 in
set_option maxHeartbeats 3200000 in
theorem cdnil_walk (s n c id : Nat) (K0 P0 Z0 : Int) (A : Option Addr) (l : List UInt8) (w : World) (ht : DTab w) (hr : Row w w.heap.size A n (bv l)) (hn : n ≤ c ∧ c ≤ 9223372036854775807) :
    Calls Tryd.prog 4 #[parV s K0 P0 Z0, .slice A n c, .int .u32 (id : Int)] w fun e w' => e = .returned (.bool true) ∧ Below w.heap.size w w' := by
  have hal : Below w.heap.size w (w.alloc (.cells #[.int .u32 (s : Int), .int .i64 K0, .int .i64 P0, .int .i64 Z0] 24)) := (Below.refl _ _).alloc (Nat.le_refl _) _
  have hx := heap_alloc_new w (.cells #[.int .u32 (s : Int), .int .i64 K0, .int .i64 P0, .int .i64 Z0] 24)
  have hz : (w.alloc (.cells #[.int .u32 (s : Int), .int .i64 K0, .int .i64 P0, .int .i64 Z0] 24)).heap.size = w.heap.size + 1 := by simp
  have HT := Lib.hid ht
  have HSO := Lib.hid (sound11_any s n c w.heap.size K0 P0 Z0 A l (w.alloc (.cells #[.int .u32 (s : Int), .int .i64 K0, .int .i64 P0, .int .i64 Z0] 24)) (hr.below hal) hn hal.size)
  have HAL := Lib.hid hal
  have HX := Lib.hid hx
  have HZ := Lib.hid hz
  obtain ⟨a0, a1, a2, a3⟩ := box4 hx
  unfold parV at HSO ⊢
  clear hal hx hz ht hr hn
  go_enter Tryd.func4, Tryd.ntmps4
  go_upto_region 2 with fail
  generalize (w.alloc (.cells #[.int .u32 (s : Int), .int .i64 K0, .int .i64 P0, .int .i64 Z0] 24)) = w0 at *
  go_wp2_with fail
  refine HSO.out.mono ?_
  rintro e w1 ⟨K, P, Z, A1, c1, img, rfl, hf, ho, hb1⟩
  have hx1 := (hb1.out.block w.heap.size (by have := HZ.out; omega)).trans HX.out
  obtain ⟨b0, b1, b2, b3⟩ := box4 hx1
  obtain ⟨f0, f1, f2, f3⟩ := frozenBox hx1
  have hx2 := setBox hx1 (.int .u32 (s : Int)) (.int .i64 (K : Int)) (.int .i64 (P : Int)) (.int .i64 (Z : Int))
  have HX2 := Lib.hid hx2
  have HF := hf
  have HB1 := hb1
  clear a0 a1 a2 a3 hx1 hx2 HSO hf hb1
  unfold parV
  go_upto_region 3 with fail
  have HO2 := Lib.hid (own_set4 ho.out (b := w.heap.size) (by have := HZ.out; omega) (.int .u32 (s : Int)) (.int .i64 (K : Int)) (.int .i64 (P : Int)) (.int .i64 (Z : Int)))
  have HB2 := Lib.hid (below_set4 (b := w.heap.size) (HAL.out.trans (HB1.out.mono HAL.out.size)) (Nat.le_refl _) (.int .u32 (s : Int)) (.int .i64 (K : Int)) (.int .i64 (P : Int)) (.int .i64 (Z : Int)))
  clear b0 b1 b2 b3 f0 f1 f2 f3 ho HB1
  generalize ((((w1.setCell ⟨w.heap.size, 0, none⟩ (.int .u32 (s : Int))).setCell ⟨w.heap.size, 1, none⟩ (.int .i64 (K : Int))).setCell ⟨w.heap.size, 2, none⟩ (.int .i64 (P : Int))).setCell ⟨w.heap.size, 3, none⟩ (.int .i64 (Z : Int))) = w2 at *
  obtain ⟨⟨hK1, hK2⟩, hP1, ⟨hZ1, hZ2⟩, ⟨hi1, hi2⟩, hcn⟩ := HF.out
  have HK1 : Hid ((1 ≤ K ∧ K ≤ 64) ∧ P ≤ 16 ∧ (1 ≤ Z ∧ Z ≤ 16)) := Lib.hid ⟨⟨hK1, hK2⟩, hP1, hZ1, hZ2⟩
  have HNE : Hid (((BlkM.count (img.length : Int) (Z : Int) : Nat) : Int) ≠ ((K : Int) + 1)) := Lib.hid (by rw [hcn]; omega)
  have HNZ : Hid (((BlkM.count ((0 : Nat) : Int) (Z : Int) : Nat) : Int) ≠ (K : Int)) := Lib.hid (by rw [show ((0 : Nat) : Int) = 0 from rfl, count_zero]; omega)
  obtain ⟨b0, b1, b2, b3⟩ := box4 HX2.out
  have hkk : (K : Int) ≤ 64 ∧ 1 ≤ (K : Int) := by omega
  have hk1 := hkk.1
  have hk2 := hkk.2
  clear hkk hK1 hK2 hP1 hZ1 hZ2 hi1 hi2 hcn
  go_upto_region 5 with fail
  have hal3 : Below w2.heap.size w2 (w2.alloc (.cells #[.int .u32 (s : Int), .int .i64 ((K : Int) + 1), .int .i64 (P : Int), .int .i64 (Z : Int)] 24)) := (Below.refl _ _).alloc (Nat.le_refl _) _
  have hx3 := heap_alloc_new w2 (.cells #[.int .u32 (s : Int), .int .i64 ((K : Int) + 1), .int .i64 (P : Int), .int .i64 (Z : Int)] 24)
  have HX3 := Lib.hid hx3
  have HX4 : Hid ((w2.alloc (.cells #[.int .u32 (s : Int), .int .i64 ((K : Int) + 1), .int .i64 (P : Int), .int .i64 (Z : Int)] 24)).heap[w.heap.size]? = _) := Lib.hid ((hal3.block w.heap.size (Array.getElem?_eq_some_iff.1 HX2.out).1).trans HX2.out)
  have HB3 := Lib.hid (HB2.out.trans (hal3.mono HB2.out.size))
  have hz3 : w2.heap.size < (w2.alloc (.cells #[.int .u32 (s : Int), .int .i64 ((K : Int) + 1), .int .i64 (P : Int), .int .i64 (Z : Int)] 24)).heap.size := by simp
  have HZ3 := Lib.hid hz3
  have HZ4 : Hid (w.heap.size < (w2.alloc (.cells #[.int .u32 (s : Int), .int .i64 ((K : Int) + 1), .int .i64 (P : Int), .int .i64 (Z : Int)] 24)).heap.size) := Lib.hid (Nat.lt_trans (Array.getElem?_eq_some_iff.1 HX2.out).1 hz3)
  have HO3 := Lib.hid (own_below HO2.out hal3)
  clear b0 b1 b2 b3 hal3 hx3 hz3 HX2 HO2 HB2
  generalize (w2.alloc (.cells #[.int .u32 (s : Int), .int .i64 ((K : Int) + 1), .int .i64 (P : Int), .int .i64 (Z : Int)] 24)) = w3 at *
  have KX3 := Lib.hid (fun (W : World) (hW : Below w3.heap.size w3 W) => box4 ((hW.block w2.heap.size HZ3.out).trans HX3.out))
  have KX4 := Lib.hid (fun (W : World) (hW : Below w3.heap.size w3 W) => box4 ((hW.block w.heap.size HZ4.out).trans HX4.out))
  go_wp2_with fail
  refine (sym_nil id w3).mono ?_
  rintro e w4 ⟨A4, n4, c4, rfl, hn4, _, hb4⟩
  have hn4' : n4 = 0 := hn4
  subst hn4'
  have HB4 := Lib.hid hb4
  clear hn4 hb4
  go_wp2_with fail
  refine (pcs_nil w4).mono ?_
  rintro e w5 ⟨rfl, hb5⟩
  have HB5 := Lib.hid (HB4.out.trans (hb5.out.mono HB4.out.size))
  clear hb5
  obtain ⟨b0, b1, b2, b3⟩ := KX3.out w5 HB5.out
  have hone : (K : Int) + 1 ≤ 65 := by omega
  go_wp2_with fail
  refine (new_no s ((K : Int) + 1) (P : Int) (Z : Int) A1 img.length c1 w5 (.inr HNE.out)).mono ?_
  rintro e w6 ⟨rfl, hb6⟩
  have HB6 := Lib.hid (HB5.out.trans (hb6.out.mono HB5.out.size))
  clear hb6 b0 b1 b2 b3
  obtain ⟨b0, b1, b2, b3⟩ := KX4.out w6 HB6.out
  go_wp2_with fail
  refine (new_no s (K : Int) (P : Int) (Z : Int) none 0 0 w6 (.inr HNZ.out)).mono ?_
  rintro e w7 ⟨rfl, hb7⟩
  have HB7 := Lib.hid (HB6.out.trans (hb7.out.mono HB6.out.size))
  clear hb7 b0 b1 b2 b3
  go_wp2_with fail
  refine (awake11_any w7 (HT.out.grow (HB3.out.trans (HB7.out.mono HB3.out.size)))).mono ?_
  rintro e w8 ⟨rfl, hb8⟩
  have HB8 := Lib.hid (HB3.out.trans ((HB7.out.trans (hb8.out.mono HB7.out.size)).mono HB3.out.size))
  clear hb8
  go_wp2_with fail
  go_ret
  exact ⟨rfl, HB8.out⟩
end Go.Proofs.YtlpmammagebkfaaDoor.Cd
namespace Go.Proofs.YtlpmammagebkfaaDoor.Cd
open Go.RowKit
open VecM RdM Vc Sp Pc
/-- Q was true of memory when it ended at U at most; its blocks from B to U are as they were -/
def Kept (Q : World → Prop) (B U : Nat) (W : World) : Prop := ∃ W0, Q W0 ∧ W0.heap.size ≤ U ∧ U ≤ W.heap.size ∧ ∀ b, B ≤ b → b < U → W.heap[b]? = W0.heap[b]?
theorem Kept.new {Q : World → Prop} {W : World} (h : Q W) (B : Nat) : Kept Q B W.heap.size W := ⟨W, h, Nat.le_refl _, Nat.le_refl _, fun _ _ _ => rfl⟩
theorem Kept.below {Q : World → Prop} {B U : Nat} {W W' : World} (h : Kept Q B U W) (hb : Below W.heap.size W W') : Kept Q B U W' := by
  obtain ⟨W0, h1, h2, h3, h4⟩ := h
  exact ⟨W0, h1, h2, Nat.le_trans h3 hb.size, fun b hb1 hb2 => (hb.block b (Nat.lt_of_lt_of_le hb2 h3)).trans (h4 b hb1 hb2)⟩
theorem Kept.but {Q : World → Prop} {B U g : Nat} {W W' : World} (h : Kept Q B U W) (hb : But W.heap.size g W W') (hg : g < B ∨ U ≤ g) : Kept Q B U W' := by
  obtain ⟨W0, h1, h2, h3, h4⟩ := h
  exact ⟨W0, h1, h2, Nat.le_trans h3 hb.size, fun b hb1 hb2 => (hb.block b (Nat.lt_of_lt_of_le hb2 h3) (by rcases hg with h | h <;> omega)).trans (h4 b hb1 hb2)⟩
theorem Kept.drew {Q : World → Prop} {B U : Nat} {W : World} (h : Kept Q B U W) : Kept Q B U W.drew := h
theorem own_keep2 {W W' : World} {base n c : Nat} {e : TypeId} {A : Option Addr} {xs : List Value} (h : W.ownsRow base e 1 (.slice A n c) n xs) (hk : ∀ b, base ≤ b → b < W.heap.size → W'.heap[b]? = W.heap[b]?) : W'.ownsRow base e 1 (.slice A n c) n xs := by
  refine ⟨h.1, ?_⟩
  rcases h.2 with h0 | ⟨g, cap, cur, hv, hb, hg, r⟩
  · exact .inl h0
  · refine .inr ⟨g, cap, cur, hv, hb, ?_, r⟩
    rw [hk g hb (Array.getElem?_eq_some_iff.1 hg).1]
    exact hg
theorem PW.keep2 {ls : List (List UInt8)} {B n c : Nat} {A : Option Addr} {W W' : World} (h : PW ls B (.slice A n c) W) (hn : ls.length = n) (hk : ∀ b, B ≤ b → b < W.heap.size → W'.heap[b]? = W.heap[b]?) : PW ls B (.slice A n c) W' := by
  subst hn
  obtain ⟨es, h1, h2, h3⟩ := h
  refine ⟨es, h1, own_keep2 h2 hk, fun r hr => ?_⟩
  obtain ⟨g, a, q, o⟩ := h3 r hr
  exact ⟨g, a, q, own_keep2 o hk⟩
theorem Kept.own {base n c U : Nat} {e : TypeId} {A : Option Addr} {xs : List Value} {W : World} (h : Kept (fun W => W.ownsRow base e 1 (.slice A n c) n xs) base U W) : W.ownsRow base e 1 (.slice A n c) n xs := by
  obtain ⟨W0, h1, h2, h3, h4⟩ := h
  exact own_keep2 h1 fun b hb1 hb2 => h4 b hb1 (Nat.lt_of_lt_of_le hb2 h2)
theorem Kept.pw {ls : List (List UInt8)} {B n c U : Nat} {A : Option Addr} {W : World} (h : Kept (PW ls B (.slice A n c)) B U W) (hn : ls.length = n) : PW ls B (.slice A n c) W := by
  obtain ⟨W0, h1, h2, h3, h4⟩ := h
  exact PW.keep2 h1 hn fun b hb1 hb2 => h4 b hb1 (Nat.lt_of_lt_of_le hb2 h2)
theorem Kept.hf {s K P Z B U g : Nat} {img : List UInt8} {W : World} (h : Kept (HFq s K P Z img B g) B U W) : HF s K P Z img W g := by
  obtain ⟨W0, h1, h2, h3, h4⟩ := h
  exact (h1.keep fun b hb1 hb2 => h4 b hb1 (Nat.lt_of_lt_of_le hb2 h2)).hf
end Go.Proofs.YtlpmammagebkfaaDoor.Cd
namespace Go.Proofs.YtlpmammagebkfaaDoor.Cd
open Go.RowKit
open VecM RdM Vc Sp Pc
theorem new_n (s K P Z B c n : Nat) (A : Option Addr) (img : List UInt8) (w : World) (hl : img.length = n) (hK : 1 ≤ K ∧ K ≤ 64) (hP : P ≤ 16) (hZ : 1 ≤ Z ∧ Z ≤ 16) (hr : Row w B A n (bv img)) (hB : B ≤ w.heap.size) (hn : n ≤ 1000000000) (hc : BlkM.count (n : Int) (Z : Int) = K) :
    Calls Tryd.prog 8 #[parV s K P Z, .slice A n c] w (NewHOk s K P Z img w) := by
  subst hl
  exact new_yes s K P Z B c A img w hK hP hZ hr hB hn hc
def SymZ (s K P Z : Nat) (img : List UInt8) (id g : Nat) (w : World) (e : Ending) (w' : World) : Prop :=
  ∃ A c, e = .returned (.slice A Z c) ∧ Hid (w'.ownsRow w.heap.size 5 1 (.slice A Z c) Z (bv (symX s K P Z img id))) ∧ Hid (But w.heap.size g w w')
theorem sym_zz (s K P Z id g : Nat) (img : List UInt8) (w : World) (hs : s < 4294967296) (hid : id < 4294967296) (hK : 1 ≤ K ∧ K ≤ 64) (hP : P ≤ 16) (hZ : 1 ≤ Z ∧ Z ≤ 16) (ht : DTab w) (hc : BlkM.count (img.length : Int) (Z : Int) = K) (h : HF s K P Z img w g) :
    Calls Tryd.prog 9 #[.pointer (some ⟨g, 0, none⟩), .int .u32 (id : Int)] w (SymZ s K P Z img id g w) := by
  refine (sym_gen s K P Z id g _ img _ w hs hid hK hP hZ (grows_but h ht) (made_first s K P Z g img w hs hK hP hZ hc h)).mono ?_
  rintro e w' ⟨A, n, c, rfl, hn, ho, _, hr⟩
  obtain rfl : Z = n := (hn.out.trans (symX_length hK.1 (by omega))).symm
  exact ⟨A, c, rfl, ho, hr⟩
theorem by_byte (x m : Nat) : ((x : Int) + (m : Int) * 5) % 256 = ((UInt8.ofNat (x + m * 5)).toNat : Int) := by
  rw [UInt8.toNat_ofNat']; omega
set_option maxRecDepth 100000 in
set_option maxHeartbeats 100000000 in
theorem cdimg_walk (s n c x id : Nat) (K0 P0 Z0 : Int) (A : Option Addr) (l : List UInt8) (w : World) (ht : DTab w) (hs : s < 4294967296) (hx : x < 256) (hid : id < 4294967296) (hr : Row w w.heap.size A n (bv l)) (hn : n ≤ c ∧ c ≤ 9223372036854775807) :
    Calls Tryd.prog 6 #[parV s K0 P0 Z0, .slice A n c, .int .u8 (x : Int), .int .u32 (id : Int)] w fun e w' => e = .returned (.bool true) ∧ Below w.heap.size w w' := by
  have HID := Lib.hid hid
  have HXB := Lib.hid hx
  clear hid hx
  have hal : Below w.heap.size w (w.alloc (.cells #[.int .u32 (s : Int), .int .i64 K0, .int .i64 P0, .int .i64 Z0] 24)) := (Below.refl _ _).alloc (Nat.le_refl _) _
  have hx := heap_alloc_new w (.cells #[.int .u32 (s : Int), .int .i64 K0, .int .i64 P0, .int .i64 Z0] 24)
  have hz : (w.alloc (.cells #[.int .u32 (s : Int), .int .i64 K0, .int .i64 P0, .int .i64 Z0] 24)).heap.size = w.heap.size + 1 := by simp
  have HT := Lib.hid ht
  have HSO := Lib.hid (sound11_any s n c w.heap.size K0 P0 Z0 A l (w.alloc (.cells #[.int .u32 (s : Int), .int .i64 K0, .int .i64 P0, .int .i64 Z0] 24)) (hr.below hal) hn hal.size)
  have HAL := Lib.hid hal
  have HX := Lib.hid hx
  have HZ := Lib.hid hz
  obtain ⟨a0, a1, a2, a3⟩ := box4 hx
  have HS := Lib.hid hs
  unfold parV at HSO ⊢
  clear hal hx hz ht hr hn hs
  go_enter Tryd.func6, Tryd.ntmps6
  go_upto_region 1 with fail
  generalize (w.alloc (.cells #[.int .u32 (s : Int), .int .i64 K0, .int .i64 P0, .int .i64 Z0] 24)) = w0 at *
  go_wp2_with fail
  refine HSO.out.mono ?_
  rintro e w1 ⟨kk, P, Z, A1, c1, img, rfl, hf, ho, hb1⟩
  have hx1 := (hb1.out.block w.heap.size (by have := HZ.out; omega)).trans HX.out
  obtain ⟨b0, b1, b2, b3⟩ := box4 hx1
  obtain ⟨f0, f1, f2, f3⟩ := frozenBox hx1
  have HX2 := Lib.hid (setBox hx1 (.int .u32 (s : Int)) (.int .i64 (kk : Int)) (.int .i64 (P : Int)) (.int .i64 (Z : Int)))
  have HB1 := hb1
  have HO2 := Lib.hid (own_set4 ho.out (b := w.heap.size) (by have := HZ.out; omega) (.int .u32 (s : Int)) (.int .i64 (kk : Int)) (.int .i64 (P : Int)) (.int .i64 (Z : Int)))
  have HB2 := Lib.hid (below_set4 (b := w.heap.size) (HAL.out.trans (HB1.out.mono HAL.out.size)) (Nat.le_refl _) (.int .u32 (s : Int)) (.int .i64 (kk : Int)) (.int .i64 (P : Int)) (.int .i64 (Z : Int)))
  clear a0 a1 a2 a3 hx1 HSO hb1 ho HB1
  unfold parV
  go_upto_region 2 with fail
  clear b0 b1 b2 b3 f0 f1 f2 f3
  generalize ((((w1.setCell ⟨w.heap.size, 0, none⟩ (.int .u32 (s : Int))).setCell ⟨w.heap.size, 1, none⟩ (.int .i64 (kk : Int))).setCell ⟨w.heap.size, 2, none⟩ (.int .i64 (P : Int))).setCell ⟨w.heap.size, 3, none⟩ (.int .i64 (Z : Int))) = w2 at *
  obtain ⟨HK, HP, HZZ, HI, HCN⟩ : Hid (1 ≤ kk ∧ kk ≤ 64) ∧ Hid (P ≤ 16) ∧ Hid (1 ≤ Z ∧ Z ≤ 16) ∧ Hid (1 ≤ img.length ∧ img.length ≤ 301) ∧ Hid (BlkM.count (img.length : Int) (Z : Int) = kk) := hf.out
  have hcap := own_cap HO2.out
  have hlt2 : w.heap.size < w2.heap.size := (Array.getElem?_eq_some_iff.1 HX2.out).1
  have HLT2 := Lib.hid hlt2
  clear hf hcap hlt2
  obtain ⟨nn, hnn⟩ : ∃ nn, img.length = nn := ⟨_, rfl⟩
  have HIL := Lib.hid hnn
  rw [hnn] at HI HCN HO2 ⊢
  clear hnn
  have HIN : Hid (nn ≤ 1000000000) := Lib.hid (by have := HI.out; omega)
  have hn301 : (nn : Int) ≤ 301 := by have := HI.out; omega
  have HROW : Hid (∀ W, Below w2.heap.size w2 W → Row W w2.heap.size A1 nn (bv img)) := Lib.hid fun W hW => (Row.of_own HO2.out).below hW
  have hm2 := fun W => mk_bytes nn (by have := HI.out; omega) W
  go_cut [9, 10] (fun x y wx => ∃ gx gy : Nat, x = .slice (some ⟨gx, 0, none⟩) nn nn ∧ y = .slice (some ⟨gy, 0, none⟩) nn nn ∧ Hid (TwoR nn gx gy w2 wx))
  case first =>
    go_region
    all_goals
      go_wp2_with fail
      go_meet
      first
        | exact ⟨_, _, rfl, rfl, (twoR_new nn (by omega) w2.drew).drew⟩
        | exact ⟨_, _, rfl, rfl, (twoR_new nn (by omega) w2.drew).swap.drew⟩
        | exact ⟨_, _, rfl, rfl, twoR_new nn (by omega) w2⟩
        | exact ⟨_, _, rfl, rfl, (twoR_new nn (by omega) w2).swap⟩
  case rest =>
    obtain ⟨gx, gy, rfl, rfl, htw⟩ := hcut
    clear hm2
    go_wp2_with fail
    go_loopw [30] (fun i wr => ∃ m : Nat, m ≤ nn ∧ i = .int .i64 m ∧ Hid (XY nn gx gy img m w2 wr)) (fun i _ => nn - (intOf i).toNat)
    case atStart => exact ⟨0, by omega, rfl, Lib.hid ⟨⟨_, _, by simp, by simp, fun j hj => absurd hj (Nat.not_lt_zero _), htw.out.2.1, htw.out.2.2.1⟩, htw.out.2.2.2⟩⟩
    case round =>
      obtain ⟨m, hm, rfl, hxy⟩ := hrel
      have hne := htw.out.1
      have HNE := Lib.hid hne
      by_cases hlt2 : m < nn
      · obtain ⟨⟨a, c, ha, hc, hj, hoa, hoc⟩, hbm⟩ := hxy.out
        have hfx := hoa.frozenAt m
        have hcx := (hoa.cellAt m (by omega)).trans (bv_getD a m (by omega))
        have hmi : (m : Int) < (nn : Int) := by omega
        have hxb := HXB.out
        have hmul := by_byte x m
        have HMUL := Lib.hid hmul
        obtain ⟨X, hX⟩ : ∃ X, UInt8.ofNat (x + m * 5) = X := ⟨_, rfl⟩
        rw [hX] at HMUL
        have hgx := (hoa.lt gx rfl).1
        have hoa2 := (hoa.stored m (.int .u8 (X.toNat : Int))).1
        rw [bv_set'] at hoa2
        have hoc2 := hoc.kept (grown_set1 wr gx m (.int .u8 (X.toNat : Int))) (.inr (fun e => hne (Option.some.inj e).symm))
        have hb2 := hbm.setCell hgx (p := ⟨gx, m, none⟩) (.int .u8 (X.toNat : Int))
        have HA := Lib.hid (And.intro ha (And.intro hc (And.intro hj (And.intro hoa2 (And.intro hoc2 hb2)))))
        clear hxy htw ha hc hj hoa hoc hbm hoa2 hoc2 hb2 hmul hX
        go_upto_region 7 with fail
        rw [HMUL.out]
        obtain ⟨ha, hc, hj, hoa2, hoc2, hb2⟩ := HA.out
        generalize wr.setCell ⟨gx, m, none⟩ (.int .u8 (X.toNat : Int)) = ws at *
        have hcx2 := (hoa2.cellAt m (by omega)).trans (bv_getD (a.set m X) m (by simp; omega))
        have e1 : (a.set m X).getD m 0 = X := by simp [List.getD, ha, hlt2]
        rw [e1] at hcx2
        have hfy := hoc2.frozenAt m
        have hcy := (hoc2.cellAt m (by omega)).trans (bv_getD c m (by omega))
        obtain ⟨b3, o3, eq1, _, hl3, hc3⟩ := (HROW.out ws hb2).byteAt hlt2
        subst eq1
        have e2 : img[m] = img.getD m 0 := by simp [List.getD, hl3]
        rw [e2] at hc3
        have hxor := xor_int (img.getD m 0) X
        obtain ⟨Y, hY⟩ : ∃ Y, X ^^^ img.getD m 0 = Y := ⟨_, rfl⟩
        rw [UInt8.xor_comm, hY] at hxor
        have hnx := XY.next hne ha hc hj hlt2 hY.symm hoa2 hoc2 hb2
        clear ha hc hj hoa2 hoc2 hb2 e1 e2 hfx hcx HA HMUL
        generalize img.getD m 0 = z at *
        go_region
        all_goals
          go_wp2_with fail
          go_roundw
          case rel => exact ⟨m + 1, by omega, by go_num, (by first | exact hnx | exact XY.drew hnx)⟩
          case measure => simp [intOf]; omega
      · obtain rfl : nn = m := by omega
        clear hlt2 htw
        obtain ⟨⟨lb, lc, HLB, HLC, hj, hoa, hoc⟩, hbm⟩ := hxy.out
        obtain ⟨w5, rfl⟩ : ∃ w5 : World, w5 = wr := ⟨_, rfl⟩
        have HLB := Lib.hid HLB
        have HLC := Lib.hid HLC
        have HXOR : Hid (∀ j, lc.getD j 0 = img.getD j 0 ^^^ lb.getD j 0) := Lib.hid fun j => by
          by_cases h : j < nn
          · rw [hj j h, UInt8.xor_comm]
          · rw [List.getD_eq_getElem?_getD, List.getElem?_eq_none (by have := HLC.out; omega), List.getD_eq_getElem?_getD, List.getElem?_eq_none (by have := HIL.out; omega), List.getD_eq_getElem?_getD, List.getElem?_eq_none (by have := HLB.out; omega)]
            rfl
        have HBW : Hid (Below w2.heap.size w2 w5) := Lib.hid hbm
        have HB6 : Hid (Below w.heap.size w w5) := Lib.hid (HB2.out.trans (hbm.mono HB2.out.size))
        have HFX : Hid (∀ W, Below w5.heap.size w5 W → (W.cell? ⟨w.heap.size, 0, none⟩ = some (.int .u32 (s : Int)) ∧ W.cell? ⟨w.heap.size, 1, none⟩ = some (.int .i64 (kk : Int)) ∧ W.cell? ⟨w.heap.size, 2, none⟩ = some (.int .i64 (P : Int)) ∧ W.cell? ⟨w.heap.size, 3, none⟩ = some (.int .i64 (Z : Int))) ∧ True) := Lib.hid fun W hW => ⟨box4 (((HBW.out.trans (hW.mono HBW.out.size)).block w.heap.size HLT2.out).trans HX2.out), trivial⟩
        have HIMA : Hid (∀ W, Below w5.heap.size w5 W → Row W w5.heap.size A1 nn (bv img)) := Lib.hid fun W hW => (HROW.out W (HBW.out.trans (hW.mono HBW.out.size))).more HBW.out.size
        have HIMB : Hid (∀ W, Below w5.heap.size w5 W → Row W w5.heap.size (some ⟨gx, 0, none⟩) nn (bv lb)) := Lib.hid fun W hW => (Row.of_own hoa).below hW
        have HIMC : Hid (∀ W, Below w5.heap.size w5 W → Row W w5.heap.size (some ⟨gy, 0, none⟩) nn (bv lc)) := Lib.hid fun W hW => (Row.of_own hoc).below hW
        have HDT : Hid (∀ W, Below w5.heap.size w5 W → DTab W) := Lib.hid fun W hW => HT.out.grow (HB6.out.trans (hW.mono HB6.out.size))
        clear hxy hj hoa hoc hbm HX2 HO2 HB2 HT HROW hne HNE
        go_upto_region 9 with fail
        go_cut [12, 13, 14] (fun x y z wx => ∃ Aa ca Ab cb Ac cc, x = .slice Aa Z ca ∧ y = .slice Ab Z cb ∧ z = .slice Ac Z cc ∧ Hid (wx.ownsRow w5.heap.size 5 1 (.slice Aa Z ca) Z (bv (symX s kk P Z img id))) ∧ Hid (wx.ownsRow w5.heap.size 5 1 (.slice Ab Z cb) Z (bv (symX s kk P Z lb id))) ∧ Hid (wx.ownsRow w5.heap.size 5 1 (.slice Ac Z cc) Z (bv (symX s kk P Z lc id))) ∧ Hid (Below w5.heap.size w5 wx))
        case first =>
          refine wp_region_noPanic ?_
          refine wp_region_held_drew (S := (fun W => Below (w5.heap.size) w5 W)) (by kernel_rfl) (Below.refl _ _).drew (fun hH0 => ?_)
          have hH0 : Below (w5.heap.size) w5 w5.drew := hH0
          generalize w5.drew = wd4000 at *
          refine wpAnyH_take (i := 0) (oi := { dst := some 54, op := Op.load 24 (Operand.tmp 4), type := 24, pos := "more.go:35", after := #[], guard := none }) (v := ?tkv4001) rfl (by kernel_rfl) (by kernel_rfl) (by kernel_rfl) (fun _ _ _ h => h) (Or.inl ⟨by rfl, ?tky4001⟩) hH0 ?tkr4001
          case tky4001 => (intro w' hSw; have z0 := HFX.out _ hSw; clear hSw; go_simp; try with_reducible rfl)
          try simp only [Act.put, List.setIfInBounds_toArray, List.set_cons_zero, List.set_cons_succ]
          refine wpAnyH_take (i := 1) (oi := { dst := some 55, op := Op.move (Operand.tmp 1), type := 25, pos := "more.go:35", after := #[], guard := none }) (v := ?tkv4002) rfl (by kernel_rfl) (by kernel_rfl) (by kernel_rfl) (fun _ _ _ h => h) (Or.inl ⟨by rfl, ?tky4002⟩) hH0 ?tkr4002
          case tky4002 => (intro w' hSw; clear hSw; go_simp; try with_reducible rfl)
          try simp only [Act.put, List.setIfInBounds_toArray, List.set_cons_zero, List.set_cons_succ]
          refine wpAnyH_take (i := 3) (oi := { dst := some 57, op := Op.move (Operand.tmp 3), type := 22, pos := "more.go:35", after := #[], guard := none }) (v := ?tkv4003) rfl (by kernel_rfl) (by kernel_rfl) (by kernel_rfl) (fun _ _ _ h => h) (Or.inl ⟨by rfl, ?tky4003⟩) hH0 ?tkr4003
          case tky4003 => (intro w' hSw; clear hSw; go_simp; try with_reducible rfl)
          try simp only [Act.put, List.setIfInBounds_toArray, List.set_cons_zero, List.set_cons_succ]
          refine wpAnyH_take (i := 5) (oi := { dst := some 59, op := Op.load 24 (Operand.tmp 4), type := 24, pos := "more.go:35", after := #[], guard := none }) (v := ?tkv4004) rfl (by kernel_rfl) (by kernel_rfl) (by kernel_rfl) (fun _ _ _ h => h) (Or.inl ⟨by rfl, ?tky4004⟩) hH0 ?tkr4004
          case tky4004 => (intro w' hSw; have z0 := HFX.out _ hSw; clear hSw; go_simp; try with_reducible rfl)
          try simp only [Act.put, List.setIfInBounds_toArray, List.set_cons_zero, List.set_cons_succ]
          refine wpAnyH_take (i := 6) (oi := { dst := some 60, op := Op.move (Operand.tmp 9), type := 25, pos := "more.go:35", after := #[], guard := none }) (v := ?tkv4005) rfl (by kernel_rfl) (by kernel_rfl) (by kernel_rfl) (fun _ _ _ h => h) (Or.inl ⟨by rfl, ?tky4005⟩) hH0 ?tkr4005
          case tky4005 => (intro w' hSw; clear hSw; go_simp; try with_reducible rfl)
          try simp only [Act.put, List.setIfInBounds_toArray, List.set_cons_zero, List.set_cons_succ]
          refine wpAnyH_take (i := 8) (oi := { dst := some 62, op := Op.move (Operand.tmp 3), type := 22, pos := "more.go:35", after := #[], guard := none }) (v := ?tkv4006) rfl (by kernel_rfl) (by kernel_rfl) (by kernel_rfl) (fun _ _ _ h => h) (Or.inl ⟨by rfl, ?tky4006⟩) hH0 ?tkr4006
          case tky4006 => (intro w' hSw; clear hSw; go_simp; try with_reducible rfl)
          try simp only [Act.put, List.setIfInBounds_toArray, List.set_cons_zero, List.set_cons_succ]
          refine wpAnyH_take (i := 10) (oi := { dst := some 64, op := Op.load 24 (Operand.tmp 4), type := 24, pos := "more.go:35", after := #[], guard := none }) (v := ?tkv4007) rfl (by kernel_rfl) (by kernel_rfl) (by kernel_rfl) (fun _ _ _ h => h) (Or.inl ⟨by rfl, ?tky4007⟩) hH0 ?tkr4007
          case tky4007 => (intro w' hSw; have z0 := HFX.out _ hSw; clear hSw; go_simp; try with_reducible rfl)
          try simp only [Act.put, List.setIfInBounds_toArray, List.set_cons_zero, List.set_cons_succ]
          refine wpAnyH_take (i := 11) (oi := { dst := some 65, op := Op.move (Operand.tmp 10), type := 25, pos := "more.go:35", after := #[], guard := none }) (v := ?tkv4008) rfl (by kernel_rfl) (by kernel_rfl) (by kernel_rfl) (fun _ _ _ h => h) (Or.inl ⟨by rfl, ?tky4008⟩) hH0 ?tkr4008
          case tky4008 => (intro w' hSw; clear hSw; go_simp; try with_reducible rfl)
          try simp only [Act.put, List.setIfInBounds_toArray, List.set_cons_zero, List.set_cons_succ]
          refine wpAnyH_take (i := 13) (oi := { dst := some 67, op := Op.move (Operand.tmp 3), type := 22, pos := "more.go:35", after := #[], guard := none }) (v := ?tkv4009) rfl (by kernel_rfl) (by kernel_rfl) (by kernel_rfl) (fun _ _ _ h => h) (Or.inl ⟨by rfl, ?tky4009⟩) hH0 ?tkr4009
          case tky4009 => (intro w' hSw; clear hSw; go_simp; try with_reducible rfl)
          try simp only [Act.put, List.setIfInBounds_toArray, List.set_cons_zero, List.set_cons_succ]
          refine wpAnyH_ready (rs := [2]) (by kernel_rfl) (by simp) ?_
          refine AllReadyH.cons (o := { dst := some 56, op := Op.call { callee := Callee.value (Operand.func 8), args := #[Operand.tmp 54, Operand.tmp 55], argTypes := #[24, 25] }, type := 28, pos := "more.go:35", after := #[{ on := 0, ground := Ground.data }, { on := 1, ground := Ground.data }], guard := none }) rfl (fun K hK => ?_) AllReadyH.nil
          go_simp
          refine (new_n s kk P Z w5.heap.size _ nn _ img wd4000 HIL.out HK.out HP.out HZZ.out (HIMA.out wd4000 (hH0)) (hH0).size HIN.out HCN.out).mono ?_
          rintro e' wn4010 ⟨g4010, rfl, hg4010, hgu4010, hq4010, hb4010'⟩
          have hb4010 := hb4010'.out
          have SZ4010 : Hid (wd4000.heap.size ≤ wn4010.heap.size) := Lib.hid hb4010.size
          have HG4010 : Hid (wd4000.heap.size ≤ g4010 ∧ g4010 < wn4010.heap.size) := Lib.hid ⟨hg4010, hgu4010⟩
          have GE4010 : Hid (w5.heap.size ≤ g4010) := Lib.hid (Nat.le_trans (hH0).size hg4010)
          have KF4010 := Lib.hid (Kept.new hq4010.out wd4000.heap.size)
          clear hq4010 hg4010 hgu4010 hb4010'
          go_simp
          have hS4010 : Below (w5.heap.size) w5 wn4010 := (hH0).trans (hb4010.mono (hH0).size)
          refine hK.out _ _ hS4010 (fun hH4010 => ?_)
          have hH4010 : Below (w5.heap.size) w5 wn4010 := hH4010
          clear hK K hS4010
          try simp only [Act.put, List.setIfInBounds_toArray, List.set_cons_zero, List.set_cons_succ]
          refine wpAnyH_ready (rs := [4]) (by kernel_rfl) (by simp) ?_
          refine AllReadyH.cons (o := { dst := some 58, op := Op.call { callee := Callee.value (Operand.func 9), args := #[Operand.tmp 56, Operand.tmp 57], argTypes := #[28, 22] }, type := 25, pos := "more.go:35", after := #[{ on := 2, ground := Ground.data }, { on := 3, ground := Ground.data }, { on := 2, ground := Ground.chain }], guard := none }) rfl (fun K hK => ?_) AllReadyH.nil
          go_simp
          refine (sym_zz s kk P Z id g4010 img wn4010 HS.out HID.out HK.out HP.out HZZ.out (HDT.out wn4010 (hH4010)) (by rw [HIL.out]; exact HCN.out) KF4010.out.hf).mono ?_
          rintro e' wn4011 ⟨A4011, c4011, rfl, ho4011, hr4011⟩
          have SZ4011 : Hid (wn4010.heap.size ≤ wn4011.heap.size) := Lib.hid hr4011.out.size
          have KO4011 := Lib.hid (Kept.new (Q := fun W => W.ownsRow wn4010.heap.size 5 1 (.slice A4011 Z c4011) Z (bv (symX s kk P Z img id))) ho4011.out wn4010.heap.size)
          have BS4011 : Hid (w5.heap.size ≤ wn4010.heap.size) := Lib.hid (hH4010).size
          clear ho4011
          go_simp
          have hS4011 : Below (w5.heap.size) w5 wn4011 := (hH4010).trans (hr4011.out.below GE4010.out (hH4010).size)
          refine hK.out _ _ hS4011 (fun hH4011 => ?_)
          have hH4011 : Below (w5.heap.size) w5 wn4011 := hH4011
          clear hK K hS4011
          try simp only [Act.put, List.setIfInBounds_toArray, List.set_cons_zero, List.set_cons_succ]
          refine wpAnyH_ready (rs := [7]) (by kernel_rfl) (by simp) ?_
          refine AllReadyH.cons (o := { dst := some 61, op := Op.call { callee := Callee.value (Operand.func 8), args := #[Operand.tmp 59, Operand.tmp 60], argTypes := #[24, 25] }, type := 28, pos := "more.go:35", after := #[{ on := 5, ground := Ground.data }, { on := 6, ground := Ground.data }, { on := 4, ground := Ground.chain }], guard := none }) rfl (fun K hK => ?_) AllReadyH.nil
          go_simp
          refine (new_n s kk P Z w5.heap.size _ nn _ lb wn4011 HLB.out HK.out HP.out HZZ.out (HIMB.out wn4011 (hH4011)) (hH4011).size HIN.out HCN.out).mono ?_
          rintro e' wn4012 ⟨g4012, rfl, hg4012, hgu4012, hq4012, hb4012'⟩
          have hb4012 := hb4012'.out
          have SZ4012 : Hid (wn4011.heap.size ≤ wn4012.heap.size) := Lib.hid hb4012.size
          have HG4012 : Hid (wn4011.heap.size ≤ g4012 ∧ g4012 < wn4012.heap.size) := Lib.hid ⟨hg4012, hgu4012⟩
          have GE4012 : Hid (w5.heap.size ≤ g4012) := Lib.hid (Nat.le_trans (hH4011).size hg4012)
          have KF4012 := Lib.hid (Kept.new hq4012.out wn4011.heap.size)
          have KO4011_4012 := Lib.hid (KO4011.out.below hb4012)
          clear hq4012 hg4012 hgu4012 hb4012'
          go_simp
          have hS4012 : Below (w5.heap.size) w5 wn4012 := (hH4011).trans (hb4012.mono (hH4011).size)
          refine hK.out _ _ hS4012 (fun hH4012 => ?_)
          have hH4012 : Below (w5.heap.size) w5 wn4012 := hH4012
          clear hK K hS4012
          try simp only [Act.put, List.setIfInBounds_toArray, List.set_cons_zero, List.set_cons_succ]
          refine wpAnyH_ready (rs := [9]) (by kernel_rfl) (by simp) ?_
          refine AllReadyH.cons (o := { dst := some 63, op := Op.call { callee := Callee.value (Operand.func 9), args := #[Operand.tmp 61, Operand.tmp 62], argTypes := #[28, 22] }, type := 25, pos := "more.go:35", after := #[{ on := 7, ground := Ground.data }, { on := 8, ground := Ground.data }, { on := 7, ground := Ground.chain }], guard := none }) rfl (fun K hK => ?_) AllReadyH.nil
          go_simp
          refine (sym_zz s kk P Z id g4012 lb wn4012 HS.out HID.out HK.out HP.out HZZ.out (HDT.out wn4012 (hH4012)) (by rw [HLB.out]; exact HCN.out) KF4012.out.hf).mono ?_
          rintro e' wn4013 ⟨A4013, c4013, rfl, ho4013, hr4013⟩
          have SZ4013 : Hid (wn4012.heap.size ≤ wn4013.heap.size) := Lib.hid hr4013.out.size
          have KO4013 := Lib.hid (Kept.new (Q := fun W => W.ownsRow wn4012.heap.size 5 1 (.slice A4013 Z c4013) Z (bv (symX s kk P Z lb id))) ho4013.out wn4012.heap.size)
          have BS4013 : Hid (w5.heap.size ≤ wn4012.heap.size) := Lib.hid (hH4012).size
          have KO4011_4013 := Lib.hid (KO4011_4012.out.but hr4013.out (by have := SZ4010.out; have := HG4010.out; have := SZ4011.out; have := SZ4012.out; have := HG4012.out; omega))
          clear ho4013
          go_simp
          have hS4013 : Below (w5.heap.size) w5 wn4013 := (hH4012).trans (hr4013.out.below GE4012.out (hH4012).size)
          refine hK.out _ _ hS4013 (fun hH4013 => ?_)
          have hH4013 : Below (w5.heap.size) w5 wn4013 := hH4013
          clear hK K hS4013
          try simp only [Act.put, List.setIfInBounds_toArray, List.set_cons_zero, List.set_cons_succ]
          refine wpAnyH_ready (rs := [12]) (by kernel_rfl) (by simp) ?_
          refine AllReadyH.cons (o := { dst := some 66, op := Op.call { callee := Callee.value (Operand.func 8), args := #[Operand.tmp 64, Operand.tmp 65], argTypes := #[24, 25] }, type := 28, pos := "more.go:35", after := #[{ on := 10, ground := Ground.data }, { on := 11, ground := Ground.data }, { on := 9, ground := Ground.chain }], guard := none }) rfl (fun K hK => ?_) AllReadyH.nil
          go_simp
          refine (new_n s kk P Z w5.heap.size _ nn _ lc wn4013 HLC.out HK.out HP.out HZZ.out (HIMC.out wn4013 (hH4013)) (hH4013).size HIN.out HCN.out).mono ?_
          rintro e' wn4014 ⟨g4014, rfl, hg4014, hgu4014, hq4014, hb4014'⟩
          have hb4014 := hb4014'.out
          have SZ4014 : Hid (wn4013.heap.size ≤ wn4014.heap.size) := Lib.hid hb4014.size
          have HG4014 : Hid (wn4013.heap.size ≤ g4014 ∧ g4014 < wn4014.heap.size) := Lib.hid ⟨hg4014, hgu4014⟩
          have GE4014 : Hid (w5.heap.size ≤ g4014) := Lib.hid (Nat.le_trans (hH4013).size hg4014)
          have KF4014 := Lib.hid (Kept.new hq4014.out wn4013.heap.size)
          have KO4011_4014 := Lib.hid (KO4011_4013.out.below hb4014)
          have KO4013_4014 := Lib.hid (KO4013.out.below hb4014)
          clear hq4014 hg4014 hgu4014 hb4014'
          go_simp
          have hS4014 : Below (w5.heap.size) w5 wn4014 := (hH4013).trans (hb4014.mono (hH4013).size)
          refine hK.out _ _ hS4014 (fun hH4014 => ?_)
          have hH4014 : Below (w5.heap.size) w5 wn4014 := hH4014
          clear hK K hS4014
          try simp only [Act.put, List.setIfInBounds_toArray, List.set_cons_zero, List.set_cons_succ]
          refine wpAnyH_ready (rs := [14]) (by kernel_rfl) (by simp) ?_
          refine AllReadyH.cons (o := { dst := some 68, op := Op.call { callee := Callee.value (Operand.func 9), args := #[Operand.tmp 66, Operand.tmp 67], argTypes := #[28, 22] }, type := 25, pos := "more.go:35", after := #[{ on := 12, ground := Ground.data }, { on := 13, ground := Ground.data }, { on := 12, ground := Ground.chain }], guard := none }) rfl (fun K hK => ?_) AllReadyH.nil
          go_simp
          refine (sym_zz s kk P Z id g4014 lc wn4014 HS.out HID.out HK.out HP.out HZZ.out (HDT.out wn4014 (hH4014)) (by rw [HLC.out]; exact HCN.out) KF4014.out.hf).mono ?_
          rintro e' wn4015 ⟨A4015, c4015, rfl, ho4015, hr4015⟩
          have SZ4015 : Hid (wn4014.heap.size ≤ wn4015.heap.size) := Lib.hid hr4015.out.size
          have KO4015 := Lib.hid (Kept.new (Q := fun W => W.ownsRow wn4014.heap.size 5 1 (.slice A4015 Z c4015) Z (bv (symX s kk P Z lc id))) ho4015.out wn4014.heap.size)
          have BS4015 : Hid (w5.heap.size ≤ wn4014.heap.size) := Lib.hid (hH4014).size
          have KO4011_4015 := Lib.hid (KO4011_4014.out.but hr4015.out (by have := SZ4010.out; have := HG4010.out; have := SZ4011.out; have := SZ4012.out; have := HG4012.out; have := SZ4013.out; have := SZ4014.out; have := HG4014.out; omega))
          have KO4013_4015 := Lib.hid (KO4013_4014.out.but hr4015.out (by have := SZ4010.out; have := HG4010.out; have := SZ4011.out; have := SZ4012.out; have := HG4012.out; have := SZ4013.out; have := SZ4014.out; have := HG4014.out; omega))
          clear ho4015
          go_simp
          have hS4015 : Below (w5.heap.size) w5 wn4015 := (hH4014).trans (hr4015.out.below GE4014.out (hH4014).size)
          refine hK.out _ _ hS4015 (fun hH4015 => ?_)
          have hH4015 : Below (w5.heap.size) w5 wn4015 := hH4015
          clear hK K hS4015
          try simp only [Act.put, List.setIfInBounds_toArray, List.set_cons_zero, List.set_cons_succ]
          refine wpAnyH_take (i := 15) (oi := { dst := some 12, op := Op.assign (Operand.tmp 58), type := 25, pos := "more.go:35", after := #[{ on := 4, ground := Ground.data }, { on := 14, ground := Ground.chain }, { on := 0, ground := Ground.phase }, { on := 1, ground := Ground.phase }, { on := 2, ground := Ground.phase }, { on := 3, ground := Ground.phase }, { on := 4, ground := Ground.phase }, { on := 5, ground := Ground.textOnly Departure.lateStores }, { on := 6, ground := Ground.textOnly Departure.lateStores }, { on := 7, ground := Ground.textOnly Departure.lateStoresUnsure }, { on := 8, ground := Ground.textOnly Departure.lateStores }, { on := 9, ground := Ground.textOnly Departure.lateStoresUnsure }, { on := 10, ground := Ground.textOnly Departure.lateStores }, { on := 11, ground := Ground.textOnly Departure.lateStores }, { on := 12, ground := Ground.textOnly Departure.lateStoresUnsure }, { on := 13, ground := Ground.textOnly Departure.lateStores }, { on := 14, ground := Ground.textOnly Departure.lateStoresUnsure }], guard := none }) (v := ?tkv4016) rfl (by kernel_rfl) (by kernel_rfl) (by kernel_rfl) (fun _ _ _ h => h) (Or.inl ⟨by rfl, ?tky4016⟩) hH4015 ?tkr4016
          case tky4016 => (intro w' hSw; clear hSw; go_simp; try with_reducible rfl)
          try simp only [Act.put, List.setIfInBounds_toArray, List.set_cons_zero, List.set_cons_succ]
          refine wpAnyH_take (i := 16) (oi := { dst := some 13, op := Op.assign (Operand.tmp 63), type := 25, pos := "more.go:35", after := #[{ on := 9, ground := Ground.data }, { on := 15, ground := Ground.chain }, { on := 0, ground := Ground.phase }, { on := 1, ground := Ground.phase }, { on := 2, ground := Ground.phase }, { on := 3, ground := Ground.phase }, { on := 4, ground := Ground.phase }, { on := 5, ground := Ground.phase }, { on := 6, ground := Ground.phase }, { on := 7, ground := Ground.phase }, { on := 8, ground := Ground.phase }, { on := 9, ground := Ground.phase }, { on := 10, ground := Ground.textOnly Departure.lateStores }, { on := 11, ground := Ground.textOnly Departure.lateStores }, { on := 12, ground := Ground.textOnly Departure.lateStoresUnsure }, { on := 13, ground := Ground.textOnly Departure.lateStores }, { on := 14, ground := Ground.textOnly Departure.lateStoresUnsure }, { on := 15, ground := Ground.phase }], guard := none }) (v := ?tkv4017) rfl (by kernel_rfl) (by kernel_rfl) (by kernel_rfl) (fun _ _ _ h => h) (Or.inl ⟨by rfl, ?tky4017⟩) hH4015 ?tkr4017
          case tky4017 => (intro w' hSw; clear hSw; go_simp; try with_reducible rfl)
          try simp only [Act.put, List.setIfInBounds_toArray, List.set_cons_zero, List.set_cons_succ]
          refine wpAnyH_take (i := 17) (oi := { dst := some 14, op := Op.assign (Operand.tmp 68), type := 25, pos := "more.go:35", after := #[{ on := 14, ground := Ground.data }, { on := 16, ground := Ground.chain }, { on := 0, ground := Ground.phase }, { on := 1, ground := Ground.phase }, { on := 2, ground := Ground.phase }, { on := 3, ground := Ground.phase }, { on := 4, ground := Ground.phase }, { on := 5, ground := Ground.phase }, { on := 6, ground := Ground.phase }, { on := 7, ground := Ground.phase }, { on := 8, ground := Ground.phase }, { on := 9, ground := Ground.phase }, { on := 10, ground := Ground.phase }, { on := 11, ground := Ground.phase }, { on := 12, ground := Ground.phase }, { on := 13, ground := Ground.phase }, { on := 14, ground := Ground.phase }, { on := 15, ground := Ground.phase }, { on := 16, ground := Ground.phase }], guard := none }) (v := ?tkv4018) rfl (by kernel_rfl) (by kernel_rfl) (by kernel_rfl) (fun _ _ _ h => h) (Or.inl ⟨by rfl, ?tky4018⟩) hH4015 ?tkr4018
          case tky4018 => (intro w' hSw; clear hSw; go_simp; try with_reducible rfl)
          try simp only [Act.put, List.setIfInBounds_toArray, List.set_cons_zero, List.set_cons_succ]
          refine wpAnyH_done (by kernel_rfl) ?_ _
          refine NoPanic.normal ?_
          go_wp2_with fail
          go_meet
          exact ⟨A4011, c4011, A4013, c4013, A4015, c4015, rfl, rfl, rfl, Lib.hid (own_base KO4011_4015.out.own BS4011.out), Lib.hid (own_base KO4013_4015.out.own BS4013.out), Lib.hid (own_base KO4015.out.own BS4015.out), Lib.hid (hH4015)⟩
        case rest =>
          obtain ⟨Aa, ca, Ab, cb, Ac, cc, rfl, rfl, rfl, HOA, HOB, HOC, HBC⟩ := hcut
          have HLIN : Hid (∀ j, j < Z → (symX s kk P Z lc id).getD j 0 = (symX s kk P Z img id).getD j 0 ^^^ (symX s kk P Z lb id).getD j 0) := Lib.hid fun j hj => symX_lin HK.out.1 (by have := HK.out; have := HP.out; omega) HXOR.out j hj
          have HRA := Lib.hid (Row.of_own HOA.out)
          have HRB := Lib.hid (Row.of_own HOB.out)
          have HRC := Lib.hid (Row.of_own HOC.out)
          obtain ⟨⟨x0, x1, x2, x3⟩, _⟩ := HFX.out wc HBC.out
          have hz16 : (Z : Int) ≤ 16 := by have := HZZ.out; omega
          clear HOA HOB HOC HXOR
          generalize symX s kk P Z lc id = sc at *
          generalize symX s kk P Z lb id = sb at *
          generalize symX s kk P Z img id = sa at *
          go_wp2_with fail
          clear x0 x1 x2 x3
          go_loopw [90] (fun i wr => ∃ k : Nat, k ≤ Z ∧ i = .int .i64 k ∧ Hid (Below wc.heap.size wc wr)) (fun i _ => Z - (intOf i).toNat)
          case atStart => exact ⟨0, by omega, rfl, Lib.hid (Below.refl _ _)⟩
          case round =>
            obtain ⟨k, hk, rfl, hbk⟩ := hrel
            by_cases hlt : k < Z
            · obtain ⟨ba, oa, rfl, _, hla, hca⟩ := (HRA.out.below hbk.out).byteAt hlt
              obtain ⟨bb, ob, rfl, _, hlb, hcb⟩ := (HRB.out.below hbk.out).byteAt hlt
              obtain ⟨bc, oc, rfl, _, hlc, hcc⟩ := (HRC.out.below hbk.out).byteAt hlt
              have ea : sa[k] = sa.getD k 0 := by simp [List.getD, hla]
              have eb : sb[k] = sb.getD k 0 := by simp [List.getD, hlb]
              have ec : sc[k] = sa.getD k 0 ^^^ sb.getD k 0 := by rw [← HLIN.out k hlt]; simp [List.getD, hlc]
              rw [ea] at hca
              rw [eb] at hcb
              rw [ec] at hcc
              have hxor := xor_int (sa.getD k 0) (sb.getD k 0)
              have hki : (k : Int) < (Z : Int) := by omega
              have HBD : Hid (Below wc.heap.size wc wr.drew) := Lib.hid (hbk.out.trans ((Below.refl wr.heap.size wr).drew.mono hbk.out.size))
              clear ea eb ec hla hlb hlc
              generalize sa.getD k 0 ^^^ sb.getD k 0 = vc at *
              generalize sa.getD k 0 = va at *
              generalize sb.getD k 0 = vb at *
              go_wp2_with fail
              go_region
              go_wp2_with fail
              go_roundw
              case rel => exact ⟨k + 1, by omega, by go_num, HBD⟩
              case measure => simp [intOf]; omega
            · obtain rfl : Z = k := by omega
              clear hlt
              have HBF := Lib.hid (HBC.out.trans (hbk.out.mono HBC.out.size))
              clear hbk
              go_wp2_with fail
              refine (awake11_any wr (HDT.out wr HBF.out)).mono ?_
              rintro e w9 ⟨rfl, hb9⟩
              have HB9 := Lib.hid (HB6.out.trans ((HBF.out.trans (hb9.out.mono HBF.out.size)).mono HB6.out.size))
              clear hb9
              go_wp2_with fail
              go_ret
              exact ⟨rfl, HB9.out⟩
end Go.Proofs.YtlpmammagebkfaaDoor.Cd
namespace Go.Proofs.YtlpmammagebkfaaDoor
open Go.RowKit Go.ChangeShapes Go.WideShapes Go.ChangeAt Vc
set_option maxRecDepth 100000 in
theorem codeImages_lifted (os : Os) (started : os.Started) (H : Type) (enc : TypeId × Value → H) :
    ReturnsInHanded {} Tryd.checked os 6 .any (fun w args => (Rows.codeImagesSpec.pre enc Tryd.prog Tryd.f6 [] false w args ∧ laidMetH Tryd.prog LB w) ∧ sizedMet enc Tryd.prog Tryd.f6 (OpenSpec.ofChange Rows.codeImagesSpec) false w args) (Rows.codeImagesSpec.post enc Tryd.prog Tryd.f6 false true false false) := by
  refine law_lift_laid (C := Tryd.checked) (tb := 4) (X := fun w _ => laidMetH Tryd.prog LB w) (fun _ _ _ hh h => h.of_heap hh) Tryd.own started (by kernel_rfl) Tryd.func6
    (ChangeSpec.witness_shaped (enc := enc) (C := Tryd.checked) (os := os) (X := fun w _ => laidMetH Tryd.prog LB w) false (World.doorLaid Tryd.prog 400 os) #[.agg #[.int .u32 0, .int .i64 0, .int .i64 0, .int .i64 0], .slice none 0 0, .int .u8 0, .int .u32 0] 8 rfl (World.shaped_of_RefB (by kernel_rfl) (by kernel_rfl)) (by kernel_rfl) (by kernel_rfl) (by kernel_rfl) (door_metB os _)) Tryd.laidOut (by kernel_rfl) rfl rfl Tryd.underlying4 ?_ ?_
  · intro ds hds
    match ds, hds with
    | [_, _, _, _], _ => rfl
  intro W base args ds p hval0 hA0 _ _ hsz0 hX0
  have hval : ∀ (j : Nat) t v, Tryd.f6.params[j]? = some t → args[j]? = some v → Value.okWide Tryd.prog W .any base t v := hval0
  have hA : DataW.TrodAll enc Tryd.prog W 0 (fun _ => true) true Tryd.f6.params.toList args.toList ds p := hA0
  rw [Tryd.params6] at hA hval
  obtain ⟨v0, vs0, d0, ds0, p0, q0, hargs0, hds0, hps0, h0, r0⟩ := trodAll_cons hA
  obtain ⟨v1, vs1, d1, ds1, p1, q1, hargs1, hds1, hps1, h1, r1⟩ := trodAll_cons r0
  obtain ⟨v2, vs2, d2, ds2, p2, q2, hargs2, hds2, hps2, h2, r2⟩ := trodAll_cons r1
  obtain ⟨v3, vs3, d3, ds3, p3, q3, hargs3, hds3, hps3, h3, r3⟩ := trodAll_cons r2
  obtain ⟨e1, _, _⟩ := trodAll_nil r3
  obtain rfl : args = #[v0, v1, v2, v3] := by cases args; simp_all
  obtain ⟨s0, K0, L0, Z0, rfl, hps0, hpK0, hpL0, hpZ0⟩ := open_par Tryd.underlying24 ⟨rfl, rfl, rfl, rfl⟩ Tryd.underlying22 Tryd.underlying3 Tryd.underlying3 Tryd.underlying3 ⟨by kernel_rfl, by kernel_rfl, by kernel_rfl, by kernel_rfl⟩ (by kernel_rfl) (hval 0 24 v0 rfl rfl) h0
  obtain ⟨A1, n1, cap1, l1, rfl, hrow1, hnc1, hcm1⟩ := open_bytes Tryd.underlying25 Tryd.underlying5 Tryd.cells5 (hval 1 25 v1 rfl rfl) h1
  obtain ⟨x2, rfl⟩ := open_byte Tryd.underlying5 (hval 2 5 v2 rfl rfl) h2
  obtain ⟨x3, rfl, hx3⟩ := open_u32 Tryd.underlying22 (hval 3 22 v3 rfl rfl) h3
  exact Cd.cdimg_walk s0 n1 cap1 x2.toNat x3 K0 L0 Z0 A1 l1 W (dtab_of_laid hX0) hps0 (CrcM.b_lt x2) hx3 hrow1 ⟨hnc1, hcm1⟩

theorem codeImages_holds : Rows.CodeImagesSaid :=
  OpenClaim.holds_of_wide 6 Tryd.f6 rfl rfl rfl rfl rfl rfl rfl ⟨rfl, rfl, rfl, rfl, rfl⟩ rfl rfl rfl rfl rfl (by kernel_rfl) Tryd.func6 (by kernel_rfl)
    (of_decide_eq_true (by kernel_rfl)) (by unfold Func.isWrapper; rw [if_neg (of_decide_eq_false (by kernel_rfl))]; exact ⟨rfl, rfl⟩)
    (fun os started H enc _ => codeImages_lifted os started H enc)

theorem codeImages_card : Rows.CodeImagesCardSaid :=
  Claim7.holds_tied_plain_at .later [] [.data] true _ false
    codeImages_holds (fun _ h => by cases h) (by kernel_rfl) (fun _ h => by cases h) codeImages_row_tie rfl ⟨rfl, rfl⟩ (by kernel_rfl) rfl
    (fun f fn hf hfn => by
      obtain rfl : f = 6 := Option.some.inj ((show Tryd.prog.funcNamed "downpour/downpourlaw11.CodeImages" = some 6 by kernel_rfl).symm.trans hf) |>.symm
      obtain rfl : fn = Tryd.f6 := (Option.some.inj (Tryd.func6.symm.trans hfn)).symm
      exact ⟨by kernel_rfl, fun j t ht => by
        rw [Tryd.params6] at ht
        have hm : t ∈ [24, 25, 5, 22] := by simpa using Array.mem_of_getElem? ht
        have hall : ([24, 25, 5, 22].all fun u => !Tryd.prog.wantsStandIn u) = true := by kernel_rfl
        exact (show Tryd.prog.wantsStandIn t = false by simpa using List.all_eq_true.1 hall t hm)⟩)
    (by kernel_rfl)
end Go.Proofs.YtlpmammagebkfaaDoor
