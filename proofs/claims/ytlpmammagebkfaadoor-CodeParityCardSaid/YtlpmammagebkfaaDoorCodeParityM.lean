/- The tied card of downpourlaw11.CodeParity. -/
import Derived.Test.YtlpmammagebkfaaDoorZ9
namespace Go.Proofs.YtlpmammagebkfaaDoor.Cd
open Go.RowKit
open VecM RdM Vc Sp Pc
/-- four cells in a box below what is one's own -/
theorem own_set4 {w : World} {base b n : Nat} {e : TypeId} {v : Value} {xs : List Value} (h : w.ownsRow base e 1 v n xs) (hb : b < base) (v0 v1 v2 v3 : Value) : ((((w.setCell ⟨b, 0, none⟩ v0).setCell ⟨b, 1, none⟩ v1).setCell ⟨b, 2, none⟩ v2).setCell ⟨b, 3, none⟩ v3).ownsRow base e 1 v n xs := by
  have hbo : ∀ g, v.ownBlock = some g → some b ≠ some g := fun g e => by
    have h1 := (h.lt g e).1
    intro h; injection h with h; omega
  exact own_grown (own_grown (own_grown (own_grown h (grown_set1 w b 0 v0) hbo) (grown_set1 _ b 1 v1) hbo) (grown_set1 _ b 2 v2) hbo) (grown_set1 _ b 3 v3) hbo
theorem below_set4 {w w1 : World} {B b : Nat} (h : Below B w w1) (hb : B ≤ b) (v0 v1 v2 v3 : Value) : Below B w ((((w1.setCell ⟨b, 0, none⟩ v0).setCell ⟨b, 1, none⟩ v1).setCell ⟨b, 2, none⟩ v2).setCell ⟨b, 3, none⟩ v3) :=
  (((h.setCell hb _).setCell hb _).setCell hb _).setCell hb _
theorem count_zero (Z : Int) : BlkM.count 0 Z = 0 := by
  unfold BlkM.count
  rw [if_pos (by omega)]
set_option maxRecDepth 100000 in
set_option maxHeartbeats 3200000 in
theorem cdnil_walk (s n c id : Nat) (K0 P0 Z0 : Int) (A : Option Addr) (l : List UInt8) (w : World) (ht : DTab w) (hr : Row w w.heap.size A n (bv l)) (hn : n ≤ c ∧ c ≤ 9223372036854775807) :
    Calls Tryd.prog 4 #[parV s K0 P0 Z0, .slice A n c, .int .u32 (id : Int)] w fun e w' => e = .returned (.bool true) ∧ Below w.heap.size w w' := by
  have hal : Below w.heap.size w (w.alloc (.cells #[.int .u32 (s : Int), .int .i64 K0, .int .i64 P0, .int .i64 Z0] 24)) := (Below.refl _ _).alloc (Nat.le_refl _) _
  have hx := heap_alloc_new w (.cells #[.int .u32 (s : Int), .int .i64 K0, .int .i64 P0, .int .i64 Z0] 24)
  have hz : (w.alloc (.cells #[.int .u32 (s : Int), .int .i64 K0, .int .i64 P0, .int .i64 Z0] 24)).heap.size = w.heap.size + 1 := by simp
  have HT := Lib.hid ht
  have HSO := Lib.hid (sound11_any s n c w.heap.size K0 P0 Z0 A l (w.alloc (.cells #[.int .u32 (s : Int), .int .i64 K0, .int .i64 P0, .int .i64 Z0] 24)) (hr.below hal) hn hal.size)
  have HAL := Lib.hid hal
  have HX := Lib.hid hx
  have HZ := Lib.hid hz
  obtain ⟨a0, a1, a2, a3⟩ := box4 hx
  unfold parV at HSO ⊢
  clear hal hx hz ht hr hn
  go_enter Tryd.func4, Tryd.ntmps4
  go_upto_region 2 with fail
  generalize (w.alloc (.cells #[.int .u32 (s : Int), .int .i64 K0, .int .i64 P0, .int .i64 Z0] 24)) = w0 at *
  go_wp2_with fail
  refine HSO.out.mono ?_
  rintro e w1 ⟨K, P, Z, A1, c1, img, rfl, hf, ho, hb1⟩
  have hx1 := (hb1.out.block w.heap.size (by have := HZ.out; omega)).trans HX.out
  obtain ⟨b0, b1, b2, b3⟩ := box4 hx1
  obtain ⟨f0, f1, f2, f3⟩ := frozenBox hx1
  have hx2 := setBox hx1 (.int .u32 (s : Int)) (.int .i64 (K : Int)) (.int .i64 (P : Int)) (.int .i64 (Z : Int))
  have HX2 := Lib.hid hx2
  have HF := hf
  have HB1 := hb1
  clear a0 a1 a2 a3 hx1 hx2 HSO hf hb1
  unfold parV
  go_upto_region 3 with fail
  have HO2 := Lib.hid (own_set4 ho.out (b := w.heap.size) (by have := HZ.out; omega) (.int .u32 (s : Int)) (.int .i64 (K : Int)) (.int .i64 (P : Int)) (.int .i64 (Z : Int)))
  have HB2 := Lib.hid (below_set4 (b := w.heap.size) (HAL.out.trans (HB1.out.mono HAL.out.size)) (Nat.le_refl _) (.int .u32 (s : Int)) (.int .i64 (K : Int)) (.int .i64 (P : Int)) (.int .i64 (Z : Int)))
  clear b0 b1 b2 b3 f0 f1 f2 f3 ho HB1
  generalize ((((w1.setCell ⟨w.heap.size, 0, none⟩ (.int .u32 (s : Int))).setCell ⟨w.heap.size, 1, none⟩ (.int .i64 (K : Int))).setCell ⟨w.heap.size, 2, none⟩ (.int .i64 (P : Int))).setCell ⟨w.heap.size, 3, none⟩ (.int .i64 (Z : Int))) = w2 at *
  obtain ⟨⟨hK1, hK2⟩, hP1, ⟨hZ1, hZ2⟩, ⟨hi1, hi2⟩, hcn⟩ := HF.out
  have HK1 : Hid ((1 ≤ K ∧ K ≤ 64) ∧ P ≤ 16 ∧ (1 ≤ Z ∧ Z ≤ 16)) := Lib.hid ⟨⟨hK1, hK2⟩, hP1, hZ1, hZ2⟩
  have HNE : Hid (((BlkM.count (img.length : Int) (Z : Int) : Nat) : Int) ≠ ((K : Int) + 1)) := Lib.hid (by rw [hcn]; omega)
  have HNZ : Hid (((BlkM.count ((0 : Nat) : Int) (Z : Int) : Nat) : Int) ≠ (K : Int)) := Lib.hid (by rw [show ((0 : Nat) : Int) = 0 from rfl, count_zero]; omega)
  obtain ⟨b0, b1, b2, b3⟩ := box4 HX2.out
  have hkk : (K : Int) ≤ 64 ∧ 1 ≤ (K : Int) := by omega
  have hk1 := hkk.1
  have hk2 := hkk.2
  clear hkk hK1 hK2 hP1 hZ1 hZ2 hi1 hi2 hcn
  go_upto_region 5 with fail
  have hal3 : Below w2.heap.size w2 (w2.alloc (.cells #[.int .u32 (s : Int), .int .i64 ((K : Int) + 1), .int .i64 (P : Int), .int .i64 (Z : Int)] 24)) := (Below.refl _ _).alloc (Nat.le_refl _) _
  have hx3 := heap_alloc_new w2 (.cells #[.int .u32 (s : Int), .int .i64 ((K : Int) + 1), .int .i64 (P : Int), .int .i64 (Z : Int)] 24)
  have HX3 := Lib.hid hx3
  have HX4 : Hid ((w2.alloc (.cells #[.int .u32 (s : Int), .int .i64 ((K : Int) + 1), .int .i64 (P : Int), .int .i64 (Z : Int)] 24)).heap[w.heap.size]? = _) := Lib.hid ((hal3.block w.heap.size (Array.getElem?_eq_some_iff.1 HX2.out).1).trans HX2.out)
  have HB3 := Lib.hid (HB2.out.trans (hal3.mono HB2.out.size))
  have hz3 : w2.heap.size < (w2.alloc (.cells #[.int .u32 (s : Int), .int .i64 ((K : Int) + 1), .int .i64 (P : Int), .int .i64 (Z : Int)] 24)).heap.size := by simp
  have HZ3 := Lib.hid hz3
  have HZ4 : Hid (w.heap.size < (w2.alloc (.cells #[.int .u32 (s : Int), .int .i64 ((K : Int) + 1), .int .i64 (P : Int), .int .i64 (Z : Int)] 24)).heap.size) := Lib.hid (Nat.lt_trans (Array.getElem?_eq_some_iff.1 HX2.out).1 hz3)
  have HO3 := Lib.hid (own_below HO2.out hal3)
  clear b0 b1 b2 b3 hal3 hx3 hz3 HX2 HO2 HB2
  generalize (w2.alloc (.cells #[.int .u32 (s : Int), .int .i64 ((K : Int) + 1), .int .i64 (P : Int), .int .i64 (Z : Int)] 24)) = w3 at *
  have KX3 := Lib.hid (fun (W : World) (hW : Below w3.heap.size w3 W) => box4 ((hW.block w2.heap.size HZ3.out).trans HX3.out))
  have KX4 := Lib.hid (fun (W : World) (hW : Below w3.heap.size w3 W) => box4 ((hW.block w.heap.size HZ4.out).trans HX4.out))
  go_wp2_with fail
  refine (sym_nil id w3).mono ?_
  rintro e w4 ⟨A4, n4, c4, rfl, hn4, _, hb4⟩
  have hn4' : n4 = 0 := hn4
  subst hn4'
  have HB4 := Lib.hid hb4
  clear hn4 hb4
  go_wp2_with fail
  refine (pcs_nil w4).mono ?_
  rintro e w5 ⟨rfl, hb5⟩
  have HB5 := Lib.hid (HB4.out.trans (hb5.out.mono HB4.out.size))
  clear hb5
  obtain ⟨b0, b1, b2, b3⟩ := KX3.out w5 HB5.out
  have hone : (K : Int) + 1 ≤ 65 := by omega
  go_wp2_with fail
  refine (new_no s ((K : Int) + 1) (P : Int) (Z : Int) A1 img.length c1 w5 (.inr HNE.out)).mono ?_
  rintro e w6 ⟨rfl, hb6⟩
  have HB6 := Lib.hid (HB5.out.trans (hb6.out.mono HB5.out.size))
  clear hb6 b0 b1 b2 b3
  obtain ⟨b0, b1, b2, b3⟩ := KX4.out w6 HB6.out
  go_wp2_with fail
  refine (new_no s (K : Int) (P : Int) (Z : Int) none 0 0 w6 (.inr HNZ.out)).mono ?_
  rintro e w7 ⟨rfl, hb7⟩
  have HB7 := Lib.hid (HB6.out.trans (hb7.out.mono HB6.out.size))
  clear hb7 b0 b1 b2 b3
  go_wp2_with fail
  refine (awake11_any w7 (HT.out.grow (HB3.out.trans (HB7.out.mono HB3.out.size)))).mono ?_
  rintro e w8 ⟨rfl, hb8⟩
  have HB8 := Lib.hid (HB3.out.trans ((HB7.out.trans (hb8.out.mono HB7.out.size)).mono HB3.out.size))
  clear hb8
  go_wp2_with fail
  go_ret
  exact ⟨rfl, HB8.out⟩
end Go.Proofs.YtlpmammagebkfaaDoor.Cd
namespace Go.Proofs.YtlpmammagebkfaaDoor.Cd
open Go.RowKit
open VecM RdM Vc Sp Pc
/-- Q was true of memory when it ended at U at most; its blocks from B to U are as they were -/
def Kept (Q : World → Prop) (B U : Nat) (W : World) : Prop := ∃ W0, Q W0 ∧ W0.heap.size ≤ U ∧ U ≤ W.heap.size ∧ ∀ b, B ≤ b → b < U → W.heap[b]? = W0.heap[b]?
theorem Kept.new {Q : World → Prop} {W : World} (h : Q W) (B : Nat) : Kept Q B W.heap.size W := ⟨W, h, Nat.le_refl _, Nat.le_refl _, fun _ _ _ => rfl⟩
theorem Kept.below {Q : World → Prop} {B U : Nat} {W W' : World} (h : Kept Q B U W) (hb : Below W.heap.size W W') : Kept Q B U W' := by
  obtain ⟨W0, h1, h2, h3, h4⟩ := h
  exact ⟨W0, h1, h2, Nat.le_trans h3 hb.size, fun b hb1 hb2 => (hb.block b (Nat.lt_of_lt_of_le hb2 h3)).trans (h4 b hb1 hb2)⟩
theorem Kept.but {Q : World → Prop} {B U g : Nat} {W W' : World} (h : Kept Q B U W) (hb : But W.heap.size g W W') (hg : g < B ∨ U ≤ g) : Kept Q B U W' := by
  obtain ⟨W0, h1, h2, h3, h4⟩ := h
  exact ⟨W0, h1, h2, Nat.le_trans h3 hb.size, fun b hb1 hb2 => (hb.block b (Nat.lt_of_lt_of_le hb2 h3) (by rcases hg with h | h <;> omega)).trans (h4 b hb1 hb2)⟩
theorem Kept.drew {Q : World → Prop} {B U : Nat} {W : World} (h : Kept Q B U W) : Kept Q B U W.drew := h
theorem own_keep2 {W W' : World} {base n c : Nat} {e : TypeId} {A : Option Addr} {xs : List Value} (h : W.ownsRow base e 1 (.slice A n c) n xs) (hk : ∀ b, base ≤ b → b < W.heap.size → W'.heap[b]? = W.heap[b]?) : W'.ownsRow base e 1 (.slice A n c) n xs := by
  refine ⟨h.1, ?_⟩
  rcases h.2 with h0 | ⟨g, cap, cur, hv, hb, hg, r⟩
  · exact .inl h0
  · refine .inr ⟨g, cap, cur, hv, hb, ?_, r⟩
    rw [hk g hb (Array.getElem?_eq_some_iff.1 hg).1]
    exact hg
theorem PW.keep2 {ls : List (List UInt8)} {B n c : Nat} {A : Option Addr} {W W' : World} (h : PW ls B (.slice A n c) W) (hn : ls.length = n) (hk : ∀ b, B ≤ b → b < W.heap.size → W'.heap[b]? = W.heap[b]?) : PW ls B (.slice A n c) W' := by
  subst hn
  obtain ⟨es, h1, h2, h3⟩ := h
  refine ⟨es, h1, own_keep2 h2 hk, fun r hr => ?_⟩
  obtain ⟨g, a, q, o⟩ := h3 r hr
  exact ⟨g, a, q, own_keep2 o hk⟩
theorem Kept.own {base n c U : Nat} {e : TypeId} {A : Option Addr} {xs : List Value} {W : World} (h : Kept (fun W => W.ownsRow base e 1 (.slice A n c) n xs) base U W) : W.ownsRow base e 1 (.slice A n c) n xs := by
  obtain ⟨W0, h1, h2, h3, h4⟩ := h
  exact own_keep2 h1 fun b hb1 hb2 => h4 b hb1 (Nat.lt_of_lt_of_le hb2 h2)
theorem Kept.pw {ls : List (List UInt8)} {B n c U : Nat} {A : Option Addr} {W : World} (h : Kept (PW ls B (.slice A n c)) B U W) (hn : ls.length = n) : PW ls B (.slice A n c) W := by
  obtain ⟨W0, h1, h2, h3, h4⟩ := h
  exact PW.keep2 h1 hn fun b hb1 hb2 => h4 b hb1 (Nat.lt_of_lt_of_le hb2 h2)
theorem Kept.hf {s K P Z B U g : Nat} {img : List UInt8} {W : World} (h : Kept (HFq s K P Z img B g) B U W) : HF s K P Z img W g := by
  obtain ⟨W0, h1, h2, h3, h4⟩ := h
  exact (h1.keep fun b hb1 hb2 => h4 b hb1 (Nat.lt_of_lt_of_le hb2 h2)).hf
end Go.Proofs.YtlpmammagebkfaaDoor.Cd
namespace Go.Proofs.YtlpmammagebkfaaDoor.Cd
open Go.RowKit
open VecM RdM Vc Sp Pc
set_option maxRecDepth 100000 in
set_option maxHeartbeats 6400000 in
theorem cdpar_walk (s n c : Nat) (K0 P0 Z0 less : Int) (A : Option Addr) (l : List UInt8) (w : World) (ht : DTab w) (hs : s < 4294967296) (hr : Row w w.heap.size A n (bv l)) (hn : n ≤ c ∧ c ≤ 9223372036854775807) :
    Calls Tryd.prog 5 #[parV s K0 P0 Z0, .slice A n c, .int .i64 less] w fun e w' => e = .returned (.bool true) ∧ Below w.heap.size w w' := by
  have hal : Below w.heap.size w (w.alloc (.cells #[.int .u32 (s : Int), .int .i64 K0, .int .i64 P0, .int .i64 Z0] 24)) := (Below.refl _ _).alloc (Nat.le_refl _) _
  have hx := heap_alloc_new w (.cells #[.int .u32 (s : Int), .int .i64 K0, .int .i64 P0, .int .i64 Z0] 24)
  have hz : (w.alloc (.cells #[.int .u32 (s : Int), .int .i64 K0, .int .i64 P0, .int .i64 Z0] 24)).heap.size = w.heap.size + 1 := by simp
  have HT := Lib.hid ht
  have HSO := Lib.hid (sound11_any s n c w.heap.size K0 P0 Z0 A l (w.alloc (.cells #[.int .u32 (s : Int), .int .i64 K0, .int .i64 P0, .int .i64 Z0] 24)) (hr.below hal) hn hal.size)
  have HAL := Lib.hid hal
  have HX := Lib.hid hx
  have HZ := Lib.hid hz
  obtain ⟨a0, a1, a2, a3⟩ := box4 hx
  have HS := Lib.hid hs
  unfold parV at HSO ⊢
  clear hal hx hz ht hr hn hs
  go_enter Tryd.func5, Tryd.ntmps5
  go_upto_region 1 with fail
  generalize (w.alloc (.cells #[.int .u32 (s : Int), .int .i64 K0, .int .i64 P0, .int .i64 Z0] 24)) = w0 at *
  go_wp2_with fail
  refine HSO.out.mono ?_
  rintro e w1 ⟨kk, P, Z, A1, c1, img, rfl, hf, ho, hb1⟩
  have hx1 := (hb1.out.block w.heap.size (by have := HZ.out; omega)).trans HX.out
  obtain ⟨b0, b1, b2, b3⟩ := box4 hx1
  obtain ⟨f0, f1, f2, f3⟩ := frozenBox hx1
  have HX2 := Lib.hid (setBox hx1 (.int .u32 (s : Int)) (.int .i64 (kk : Int)) (.int .i64 (P : Int)) (.int .i64 (Z : Int)))
  have HB1 := hb1
  have HO2 := Lib.hid (own_set4 ho.out (b := w.heap.size) (by have := HZ.out; omega) (.int .u32 (s : Int)) (.int .i64 (kk : Int)) (.int .i64 (P : Int)) (.int .i64 (Z : Int)))
  have HB2 := Lib.hid (below_set4 (b := w.heap.size) (HAL.out.trans (HB1.out.mono HAL.out.size)) (Nat.le_refl _) (.int .u32 (s : Int)) (.int .i64 (kk : Int)) (.int .i64 (P : Int)) (.int .i64 (Z : Int)))
  clear a0 a1 a2 a3 hx1 HSO hb1 ho HB1
  unfold parV
  go_upto_region 2 with fail
  clear b0 b1 b2 b3 f0 f1 f2 f3
  generalize ((((w1.setCell ⟨w.heap.size, 0, none⟩ (.int .u32 (s : Int))).setCell ⟨w.heap.size, 1, none⟩ (.int .i64 (kk : Int))).setCell ⟨w.heap.size, 2, none⟩ (.int .i64 (P : Int))).setCell ⟨w.heap.size, 3, none⟩ (.int .i64 (Z : Int))) = w2 at *
  obtain ⟨HK, HP, HZZ, HI, HCN⟩ : Hid (1 ≤ kk ∧ kk ≤ 64) ∧ Hid (P ≤ 16) ∧ Hid (1 ≤ Z ∧ Z ≤ 16) ∧ Hid (1 ≤ img.length ∧ img.length ≤ 301) ∧ Hid (BlkM.count (img.length : Int) (Z : Int) = kk) := hf.out
  have hcap := own_cap HO2.out
  have hlt2 : w.heap.size < w2.heap.size := (Array.getElem?_eq_some_iff.1 HX2.out).1
  have HLT2 := Lib.hid hlt2
  clear hf hcap hlt2
  obtain ⟨m, hm⟩ : ∃ m : Nat, (P : Int) + 1 = (m : Int) := ⟨P + 1, by omega⟩
  have hmb : (m : Int) ≤ 17 ∧ 1 ≤ (m : Int) := by have := HP.out; omega
  have hmb1 := hmb.1
  have hmb2 := hmb.2
  obtain ⟨Q, hQ, hQp⟩ := pick_in less (m : Int) (by omega) (by omega)
  have HQP := Lib.hid hQp
  have HM := Lib.hid hm
  have HQ : Hid (Q ≤ 16) := Lib.hid (by omega)
  have HQP' : Hid (Q ≤ P) := Lib.hid (by omega)
  obtain ⟨b0, b1, b2, b3⟩ := box4 HX2.out
  have hp16 : (P : Int) ≤ 16 := by have := HP.out; omega
  have hlt2 := HLT2.out
  clear hmb hQp hm hQ
  go_upto_region 4 with (first | rw [HM.out] | rw [HQP.out])
  have hal3 : Below w2.heap.size w2 (w2.alloc (.cells #[.int .u32 (s : Int), .int .i64 (kk : Int), .int .i64 (Q : Int), .int .i64 (Z : Int)] 24)) := (Below.refl _ _).alloc (Nat.le_refl _) _
  have HX3 := Lib.hid (heap_alloc_new w2 (.cells #[.int .u32 (s : Int), .int .i64 (kk : Int), .int .i64 (Q : Int), .int .i64 (Z : Int)] 24))
  have HX4 : Hid ((w2.alloc (.cells #[.int .u32 (s : Int), .int .i64 (kk : Int), .int .i64 (Q : Int), .int .i64 (Z : Int)] 24)).heap[w.heap.size]? = _) := Lib.hid ((hal3.block w.heap.size hlt2).trans HX2.out)
  have HB3 := Lib.hid (HB2.out.trans (hal3.mono HB2.out.size))
  have hz3 : w2.heap.size < (w2.alloc (.cells #[.int .u32 (s : Int), .int .i64 (kk : Int), .int .i64 (Q : Int), .int .i64 (Z : Int)] 24)).heap.size := by simp
  have HZ3 := Lib.hid hz3
  have HZ4 : Hid (w.heap.size < (w2.alloc (.cells #[.int .u32 (s : Int), .int .i64 (kk : Int), .int .i64 (Q : Int), .int .i64 (Z : Int)] 24)).heap.size) := Lib.hid (Nat.lt_trans hlt2 hz3)
  have HO3 := Lib.hid (own_below HO2.out hal3)
  clear b0 b1 b2 b3 hal3 hz3 HX2 HO2 HB2 hlt2
  generalize (w2.alloc (.cells #[.int .u32 (s : Int), .int .i64 (kk : Int), .int .i64 (Q : Int), .int .i64 (Z : Int)] 24)) = w3 at *
  have HFX : Hid (∀ W, Below w3.heap.size w3 W → (W.cell? ⟨w2.heap.size, 0, none⟩ = some (.int .u32 (s : Int)) ∧ W.cell? ⟨w2.heap.size, 1, none⟩ = some (.int .i64 (kk : Int)) ∧ W.cell? ⟨w2.heap.size, 2, none⟩ = some (.int .i64 (Q : Int)) ∧ W.cell? ⟨w2.heap.size, 3, none⟩ = some (.int .i64 (Z : Int))) ∧ (W.cell? ⟨w.heap.size, 0, none⟩ = some (.int .u32 (s : Int)) ∧ W.cell? ⟨w.heap.size, 1, none⟩ = some (.int .i64 (kk : Int)) ∧ W.cell? ⟨w.heap.size, 2, none⟩ = some (.int .i64 (P : Int)) ∧ W.cell? ⟨w.heap.size, 3, none⟩ = some (.int .i64 (Z : Int)))) := Lib.hid fun W hW => ⟨box4 ((hW.block w2.heap.size HZ3.out).trans HX3.out), box4 ((hW.block w.heap.size HZ4.out).trans HX4.out)⟩
  have HIM : Hid (∀ W, Below w3.heap.size w3 W → Row W w3.heap.size A1 img.length (bv img)) := Lib.hid fun W hW => (Row.of_own HO3.out).below hW
  have HLO : Hid (w3.heap.size ≤ w3.heap.size) := Lib.hid (Nat.le_refl _)
  have HIL : Hid (img.length ≤ 1000000000) := Lib.hid (by have := HI.out; omega)
  have HDT : Hid (∀ W, Below w3.heap.size w3 W → DTab W) := Lib.hid fun W hW => HT.out.grow (HB3.out.trans (hW.mono HB3.out.size))
  clear HX3 HX4 HO3 HT HQP HM
  go_cut [8, 9] (fun s8 s9 wx => ∃ A8 c8 A9 c9, s8 = .slice A8 (kk + P) c8 ∧ s9 = .slice A9 (kk + Q) c9 ∧ Hid (PW (allC s kk P Z img) w3.heap.size (.slice A8 (kk + P) c8) wx) ∧ Hid (PW (allC s kk Q Z img) w3.heap.size (.slice A9 (kk + Q) c9) wx) ∧ Hid (Below w3.heap.size w3 wx))
  case first =>
    refine wp_region_noPanic ?_
    refine wp_region_held_drew (S := (fun W => Below (w3.heap.size) w3 W)) (by kernel_rfl) (Below.refl _ _).drew (fun hH0 => ?_)
    have hH0 : Below (w3.heap.size) w3 w3.drew := hH0
    generalize w3.drew = wd4000 at *
    refine wpAnyH_take (i := 0) (oi := { dst := some 27, op := Op.load 24 (Operand.tmp 3), type := 24, pos := "more.go:15", after := #[], guard := none }) (v := ?tkv4001) rfl (by kernel_rfl) (by kernel_rfl) (by kernel_rfl) (fun _ _ _ h => h) (Or.inl ⟨by rfl, ?tky4001⟩) hH0 ?tkr4001
    case tky4001 => (intro w' hSw; have z0 := HFX.out _ hSw; clear hSw; go_simp; try with_reducible rfl)
    try simp only [Act.put, List.setIfInBounds_toArray, List.set_cons_zero, List.set_cons_succ]
    refine wpAnyH_take (i := 1) (oi := { dst := some 28, op := Op.move (Operand.tmp 1), type := 25, pos := "more.go:15", after := #[], guard := none }) (v := ?tkv4002) rfl (by kernel_rfl) (by kernel_rfl) (by kernel_rfl) (fun _ _ _ h => h) (Or.inl ⟨by rfl, ?tky4002⟩) hH0 ?tkr4002
    case tky4002 => (intro w' hSw; clear hSw; go_simp; try with_reducible rfl)
    try simp only [Act.put, List.setIfInBounds_toArray, List.set_cons_zero, List.set_cons_succ]
    refine wpAnyH_take (i := 4) (oi := { dst := some 31, op := Op.load 24 (Operand.tmp 7), type := 24, pos := "more.go:15", after := #[], guard := none }) (v := ?tkv4003) rfl (by kernel_rfl) (by kernel_rfl) (by kernel_rfl) (fun _ _ _ h => h) (Or.inl ⟨by rfl, ?tky4003⟩) hH0 ?tkr4003
    case tky4003 => (intro w' hSw; have z0 := HFX.out _ hSw; clear hSw; go_simp; try with_reducible rfl)
    try simp only [Act.put, List.setIfInBounds_toArray, List.set_cons_zero, List.set_cons_succ]
    refine wpAnyH_take (i := 5) (oi := { dst := some 32, op := Op.move (Operand.tmp 1), type := 25, pos := "more.go:15", after := #[], guard := none }) (v := ?tkv4004) rfl (by kernel_rfl) (by kernel_rfl) (by kernel_rfl) (fun _ _ _ h => h) (Or.inl ⟨by rfl, ?tky4004⟩) hH0 ?tkr4004
    case tky4004 => (intro w' hSw; clear hSw; go_simp; try with_reducible rfl)
    try simp only [Act.put, List.setIfInBounds_toArray, List.set_cons_zero, List.set_cons_succ]
    refine wpAnyH_ready (rs := [2]) (by kernel_rfl) (by simp) ?_
    refine AllReadyH.cons (o := { dst := some 29, op := Op.call { callee := Callee.value (Operand.func 8), args := #[Operand.tmp 27, Operand.tmp 28], argTypes := #[24, 25] }, type := 28, pos := "more.go:15", after := #[{ on := 0, ground := Ground.data }, { on := 1, ground := Ground.data }], guard := none }) rfl (fun K hK => ?_) AllReadyH.nil
    go_simp
    refine (new_yes s kk P Z w3.heap.size c1 A1 img wd4000 HK.out HP.out HZZ.out (HIM.out wd4000 (hH0)) (Nat.le_trans HLO.out (hH0).size) HIL.out HCN.out).mono ?_
    rintro e' wn4005 ⟨g4005, rfl, hg4005, hgu4005, hq4005, hb4005'⟩
    have hb4005 := hb4005'.out
    have SZ4005 : Hid (wd4000.heap.size ≤ wn4005.heap.size) := Lib.hid hb4005.size
    have HG4005 : Hid (wd4000.heap.size ≤ g4005 ∧ g4005 < wn4005.heap.size) := Lib.hid ⟨hg4005, hgu4005⟩
    have GE4005 : Hid (w3.heap.size ≤ g4005) := Lib.hid (Nat.le_trans (hH0).size hg4005)
    have KF4005 := Lib.hid (Kept.new hq4005.out wd4000.heap.size)
    clear hq4005 hg4005 hgu4005 hb4005'
    go_simp
    have hS4005 : Below (w3.heap.size) w3 wn4005 := (hH0).trans (hb4005.mono (hH0).size)
    refine hK.out _ _ hS4005 (fun hH4005 => ?_)
    have hH4005 : Below (w3.heap.size) w3 wn4005 := hH4005
    clear hK K hS4005
    try simp only [Act.put, List.setIfInBounds_toArray, List.set_cons_zero, List.set_cons_succ]
    refine wpAnyH_ready (rs := [3]) (by kernel_rfl) (by simp) ?_
    refine AllReadyH.cons (o := { dst := some 30, op := Op.call { callee := Callee.value (Operand.func 10), args := #[Operand.tmp 29], argTypes := #[28] }, type := 31, pos := "more.go:15", after := #[{ on := 2, ground := Ground.data }, { on := 2, ground := Ground.chain }], guard := none }) rfl (fun K hK => ?_) AllReadyH.nil
    go_simp
    refine (pcs_gen s kk P Z g4005 _ img _ wn4005 HK.out HP.out HZZ.out (grows_but KF4005.out.hf (HDT.out wn4005 (hH4005))) (made_first s kk P Z g4005 img wn4005 HS.out HK.out HP.out HZZ.out HCN.out KF4005.out.hf)).mono ?_
    rintro e' wn4006 ⟨A4006, c4006, rfl, hp4006, _, hr4006⟩
    have SZ4006 : Hid (wn4005.heap.size ≤ wn4006.heap.size) := Lib.hid hr4006.out.size
    have KP4006 := Lib.hid (Kept.new hp4006.out wn4005.heap.size)
    have BS4006 : Hid (w3.heap.size ≤ wn4005.heap.size) := Lib.hid (hH4005).size
    clear hp4006
    go_simp
    have hS4006 : Below (w3.heap.size) w3 wn4006 := (hH4005).trans (hr4006.out.below GE4005.out (hH4005).size)
    refine hK.out _ _ hS4006 (fun hH4006 => ?_)
    have hH4006 : Below (w3.heap.size) w3 wn4006 := hH4006
    clear hK K hS4006
    try simp only [Act.put, List.setIfInBounds_toArray, List.set_cons_zero, List.set_cons_succ]
    refine wpAnyH_ready (rs := [6]) (by kernel_rfl) (by simp) ?_
    refine AllReadyH.cons (o := { dst := some 33, op := Op.call { callee := Callee.value (Operand.func 8), args := #[Operand.tmp 31, Operand.tmp 32], argTypes := #[24, 25] }, type := 28, pos := "more.go:15", after := #[{ on := 4, ground := Ground.data }, { on := 5, ground := Ground.data }, { on := 3, ground := Ground.chain }], guard := none }) rfl (fun K hK => ?_) AllReadyH.nil
    go_simp
    refine (new_yes s kk Q Z w3.heap.size c1 A1 img wn4006 HK.out HQ.out HZZ.out (HIM.out wn4006 (hH4006)) (Nat.le_trans HLO.out (hH4006).size) HIL.out HCN.out).mono ?_
    rintro e' wn4007 ⟨g4007, rfl, hg4007, hgu4007, hq4007, hb4007'⟩
    have hb4007 := hb4007'.out
    have SZ4007 : Hid (wn4006.heap.size ≤ wn4007.heap.size) := Lib.hid hb4007.size
    have HG4007 : Hid (wn4006.heap.size ≤ g4007 ∧ g4007 < wn4007.heap.size) := Lib.hid ⟨hg4007, hgu4007⟩
    have GE4007 : Hid (w3.heap.size ≤ g4007) := Lib.hid (Nat.le_trans (hH4006).size hg4007)
    have KF4007 := Lib.hid (Kept.new hq4007.out wn4006.heap.size)
    have KP4006_4007 := Lib.hid (KP4006.out.below hb4007)
    clear hq4007 hg4007 hgu4007 hb4007'
    go_simp
    have hS4007 : Below (w3.heap.size) w3 wn4007 := (hH4006).trans (hb4007.mono (hH4006).size)
    refine hK.out _ _ hS4007 (fun hH4007 => ?_)
    have hH4007 : Below (w3.heap.size) w3 wn4007 := hH4007
    clear hK K hS4007
    try simp only [Act.put, List.setIfInBounds_toArray, List.set_cons_zero, List.set_cons_succ]
    refine wpAnyH_ready (rs := [7]) (by kernel_rfl) (by simp) ?_
    refine AllReadyH.cons (o := { dst := some 34, op := Op.call { callee := Callee.value (Operand.func 10), args := #[Operand.tmp 33], argTypes := #[28] }, type := 31, pos := "more.go:15", after := #[{ on := 6, ground := Ground.data }, { on := 6, ground := Ground.chain }], guard := none }) rfl (fun K hK => ?_) AllReadyH.nil
    go_simp
    refine (pcs_gen s kk Q Z g4007 _ img _ wn4007 HK.out HQ.out HZZ.out (grows_but KF4007.out.hf (HDT.out wn4007 (hH4007))) (made_first s kk Q Z g4007 img wn4007 HS.out HK.out HQ.out HZZ.out HCN.out KF4007.out.hf)).mono ?_
    rintro e' wn4008 ⟨A4008, c4008, rfl, hp4008, _, hr4008⟩
    have SZ4008 : Hid (wn4007.heap.size ≤ wn4008.heap.size) := Lib.hid hr4008.out.size
    have KP4008 := Lib.hid (Kept.new hp4008.out wn4007.heap.size)
    have BS4008 : Hid (w3.heap.size ≤ wn4007.heap.size) := Lib.hid (hH4007).size
    have KP4006_4008 := Lib.hid (KP4006_4007.out.but hr4008.out (by have := SZ4005.out; have := HG4005.out; have := SZ4006.out; have := SZ4007.out; have := HG4007.out; omega))
    clear hp4008
    go_simp
    have hS4008 : Below (w3.heap.size) w3 wn4008 := (hH4007).trans (hr4008.out.below GE4007.out (hH4007).size)
    refine hK.out _ _ hS4008 (fun hH4008 => ?_)
    have hH4008 : Below (w3.heap.size) w3 wn4008 := hH4008
    clear hK K hS4008
    try simp only [Act.put, List.setIfInBounds_toArray, List.set_cons_zero, List.set_cons_succ]
    refine wpAnyH_take (i := 8) (oi := { dst := some 8, op := Op.assign (Operand.tmp 30), type := 31, pos := "more.go:15", after := #[{ on := 3, ground := Ground.data }, { on := 7, ground := Ground.chain }, { on := 0, ground := Ground.phase }, { on := 1, ground := Ground.phase }, { on := 2, ground := Ground.phase }, { on := 3, ground := Ground.phase }, { on := 4, ground := Ground.textOnly Departure.lateStores }, { on := 5, ground := Ground.textOnly Departure.lateStores }, { on := 6, ground := Ground.textOnly Departure.lateStoresUnsure }, { on := 7, ground := Ground.textOnly Departure.lateStoresUnsure }], guard := none }) (v := ?tkv4009) rfl (by kernel_rfl) (by kernel_rfl) (by kernel_rfl) (fun _ _ _ h => h) (Or.inl ⟨by rfl, ?tky4009⟩) hH4008 ?tkr4009
    case tky4009 => (intro w' hSw; clear hSw; go_simp; try with_reducible rfl)
    try simp only [Act.put, List.setIfInBounds_toArray, List.set_cons_zero, List.set_cons_succ]
    refine wpAnyH_take (i := 9) (oi := { dst := some 9, op := Op.assign (Operand.tmp 34), type := 31, pos := "more.go:15", after := #[{ on := 7, ground := Ground.data }, { on := 8, ground := Ground.chain }, { on := 0, ground := Ground.phase }, { on := 1, ground := Ground.phase }, { on := 2, ground := Ground.phase }, { on := 3, ground := Ground.phase }, { on := 4, ground := Ground.phase }, { on := 5, ground := Ground.phase }, { on := 6, ground := Ground.phase }, { on := 7, ground := Ground.phase }, { on := 8, ground := Ground.phase }], guard := none }) (v := ?tkv4010) rfl (by kernel_rfl) (by kernel_rfl) (by kernel_rfl) (fun _ _ _ h => h) (Or.inl ⟨by rfl, ?tky4010⟩) hH4008 ?tkr4010
    case tky4010 => (intro w' hSw; clear hSw; go_simp; try with_reducible rfl)
    try simp only [Act.put, List.setIfInBounds_toArray, List.set_cons_zero, List.set_cons_succ]
    refine wpAnyH_done (by kernel_rfl) ?_ _
    refine NoPanic.normal ?_
    go_wp2_with fail
    go_meet
    exact ⟨A4006, c4006, A4008, c4008, rfl, rfl, Lib.hid ((KP4006_4008.out.pw (allC_length _ _ _ _ _)).mono BS4006.out), Lib.hid ((KP4008.out.pw (allC_length _ _ _ _ _)).mono BS4008.out), Lib.hid (hH4008)⟩
  case rest =>
    obtain ⟨A8, c8, A9, c9, rfl, rfl, HPA, HPB, HBC⟩ := hcut
    obtain ⟨_, _, ea, hva, hea, hra, _⟩ := HPA.out.rows
    rw [allC_length] at hva hra
    injection hva with e1 e2 e3
    subst e1 e3
    obtain ⟨_, _, eb, hvb, heb, hrb, _⟩ := HPB.out.rows
    rw [allC_length] at hvb hrb
    injection hvb with e1 e2 e3
    subst e1 e3
    have HRA := Lib.hid hra
    have HEA := Lib.hid hea
    have HRB := Lib.hid hrb
    have HEB := Lib.hid heb
    obtain ⟨⟨x0, x1, x2, x3⟩, y0, y1, y2, y3⟩ := HFX.out wc HBC.out
    have hkk : (kk : Int) ≤ 64 := by have := HK.out; omega
    have hqq : (Q : Int) ≤ 16 := by have := HQ.out; omega
    clear hra hea hrb heb HPA HPB
    go_wp2_with fail
    clear x0 x1 x2 x3 y0 y1 y2 y3
    go_loopw [55] (fun i wr => ∃ k : Nat, k ≤ kk + Q ∧ i = .int .i64 k ∧ Hid (Below wc.heap.size wc wr)) (fun i _ => kk + Q - (intOf i).toNat)
    case atStart => exact ⟨0, by omega, rfl, Lib.hid (Below.refl _ _)⟩
    case round =>
      obtain ⟨k, hk, rfl, hbk⟩ := hrel
      have hsz := hbk.out.size
      by_cases hlt : k < kk + Q
      · have hqp := HQP'.out
        obtain ⟨ba, oa, rfl, ra, hra, hca, hrowa⟩ := (HRA.out.below hbk.out).at_ (show k < kk + P by omega)
        obtain ⟨bb, ob, rfl, rb, hrb, hcb, hrowb⟩ := (HRB.out.below hbk.out).at_ hlt
        have hla : ra.l = (allC s kk P Z img).getD k [] := by rw [← HEA.out]; simp [List.getD, hra]
        have hlb : rb.l = (allC s kk P Z img).getD k [] := by rw [← allC_prefix hqp hlt, ← HEB.out]; simp [List.getD, hrb]
        have hnb : rb.n = Z := by rw [← hrowb.blen, hlb]; exact allC_zi (by omega)
        have hza := conv_row ra.c hrowa hsz wr.drew (Below.refl _ _).drew
        have hzb := conv_row rb.c hrowb hsz wr.drew (Below.refl _ _).drew
        rw [hla] at hza
        rw [hlb] at hzb
        have hbw : Below w3.heap.size w3 wr.drew := (HBC.out.trans (hbk.out.mono HBC.out.size)).drew
        obtain ⟨⟨x0, x1, x2, x3⟩, y0, y1, y2, y3⟩ := HFX.out wr.drew hbw
        have hcad : wr.drew.cell? ⟨ba, oa + k, none⟩ = some (.slice ra.A ra.n ra.c) := hca
        have hcbd : wr.drew.cell? ⟨bb, ob + k, none⟩ = some (.slice rb.A rb.n rb.c) := hcb
        rw [hnb] at hcb hcbd hzb
        have hki : (k : Int) < ((kk + Q : Nat) : Int) := by omega
        have hki2 : (k : Int) < ((kk + P : Nat) : Int) := by omega
        have hki3 : (k : Int) < (kk : Int) + (Q : Int) := by omega
        have hki4 : (k : Int) < (kk : Int) + (P : Int) := by omega
        have HBD := Lib.hid (hbk.out.trans ((Below.refl wr.heap.size wr).drew.mono hsz))
        generalize (allC s kk P Z img).getD k [] = la at *
        clear hra hrb hla hlb hrowa hrowb hnb hbw hbk
        go_wp2_with fail
        go_region
        go_wp2_with fail
        go_roundw
        case rel => exact ⟨k + 1, by omega, by go_num, HBD⟩
        case measure => simp [intOf]; omega
      · obtain rfl : kk + Q = k := by omega
        clear hlt
        have HBF := Lib.hid (HBC.out.trans (hbk.out.mono HBC.out.size))
        clear hbk
        go_wp2_with fail
        refine (awake11_any wr (HDT.out wr HBF.out)).mono ?_
        rintro e w9 ⟨rfl, hb9⟩
        have HB9 := Lib.hid (HB3.out.trans ((HBF.out.trans (hb9.out.mono HBF.out.size)).mono HB3.out.size))
        clear hb9
        go_wp2_with fail
        go_ret
        exact ⟨rfl, HB9.out⟩
end Go.Proofs.YtlpmammagebkfaaDoor.Cd
namespace Go.Proofs.YtlpmammagebkfaaDoor
open Go.RowKit Go.ChangeShapes Go.WideShapes Go.ChangeAt Vc
set_option maxRecDepth 100000 in
theorem codeParity_lifted (os : Os) (started : os.Started) (H : Type) (enc : TypeId × Value → H) :
    ReturnsInHanded {} Tryd.checked os 5 .any (fun w args => (Rows.codeParitySpec.pre enc Tryd.prog Tryd.f5 [] false w args ∧ laidMetH Tryd.prog LB w) ∧ sizedMet enc Tryd.prog Tryd.f5 (OpenSpec.ofChange Rows.codeParitySpec) false w args) (Rows.codeParitySpec.post enc Tryd.prog Tryd.f5 false true false false) := by
  refine law_lift_laid (C := Tryd.checked) (tb := 4) (X := fun w _ => laidMetH Tryd.prog LB w) (fun _ _ _ hh h => h.of_heap hh) Tryd.own started (by kernel_rfl) Tryd.func5
    (ChangeSpec.witness_shaped (enc := enc) (C := Tryd.checked) (os := os) (X := fun w _ => laidMetH Tryd.prog LB w) false (World.doorLaid Tryd.prog 400 os) #[.agg #[.int .u32 0, .int .i64 0, .int .i64 0, .int .i64 0], .slice none 0 0, .int .i64 0] 8 rfl (World.shaped_of_RefB (by kernel_rfl) (by kernel_rfl)) (by kernel_rfl) (by kernel_rfl) (by kernel_rfl) (door_metB os _)) Tryd.laidOut (by kernel_rfl) rfl rfl Tryd.underlying4 ?_ ?_
  · intro ds hds
    match ds, hds with
    | [_, _, _], _ => rfl
  intro W base args ds p hval0 hA0 _ _ hsz0 hX0
  have hval : ∀ (j : Nat) t v, Tryd.f5.params[j]? = some t → args[j]? = some v → Value.okWide Tryd.prog W .any base t v := hval0
  have hA : DataW.TrodAll enc Tryd.prog W 0 (fun _ => true) true Tryd.f5.params.toList args.toList ds p := hA0
  rw [Tryd.params5] at hA hval
  obtain ⟨v0, v1, v2, d0, d1, d2, p0, p1, p2, rfl, rfl, rfl, h0, h1, h2⟩ := trodAll_three hA
  obtain ⟨s0, K0, L0, Z0, rfl, hps0, hpK0, hpL0, hpZ0⟩ := open_par Tryd.underlying24 ⟨rfl, rfl, rfl, rfl⟩ Tryd.underlying22 Tryd.underlying3 Tryd.underlying3 Tryd.underlying3 ⟨by kernel_rfl, by kernel_rfl, by kernel_rfl, by kernel_rfl⟩ (by kernel_rfl) (hval 0 24 v0 rfl rfl) h0
  obtain ⟨A1, n1, cap1, l1, rfl, hrow1, hnc1, hcm1⟩ := open_bytes Tryd.underlying25 Tryd.underlying5 Tryd.cells5 (hval 1 25 v1 rfl rfl) h1
  obtain ⟨x2, rfl, hx2, hy2⟩ := open_i64 Tryd.underlying3 (hval 2 3 v2 rfl rfl) h2
  exact Cd.cdpar_walk s0 n1 cap1 K0 L0 Z0 x2 A1 l1 W (dtab_of_laid hX0) hps0 hrow1 ⟨hnc1, hcm1⟩

theorem codeParity_holds : Rows.CodeParitySaid :=
  OpenClaim.holds_of_wide 5 Tryd.f5 rfl rfl rfl rfl rfl rfl rfl ⟨rfl, rfl, rfl, rfl, rfl⟩ rfl rfl rfl rfl rfl (by kernel_rfl) Tryd.func5 (by kernel_rfl)
    (of_decide_eq_true (by kernel_rfl)) (by unfold Func.isWrapper; rw [if_neg (of_decide_eq_false (by kernel_rfl))]; exact ⟨rfl, rfl⟩)
    (fun os started H enc _ => codeParity_lifted os started H enc)

theorem codeParity_card : Rows.CodeParityCardSaid :=
  Claim7.holds_tied_plain_at .later [] [.data] true _ false
    codeParity_holds (fun _ h => by cases h) (by kernel_rfl) (fun _ h => by cases h) codeParity_row_tie rfl ⟨rfl, rfl⟩ (by kernel_rfl) rfl
    (fun f fn hf hfn => by
      obtain rfl : f = 5 := Option.some.inj ((show Tryd.prog.funcNamed "downpour/downpourlaw11.CodeParity" = some 5 by kernel_rfl).symm.trans hf) |>.symm
      obtain rfl : fn = Tryd.f5 := (Option.some.inj (Tryd.func5.symm.trans hfn)).symm
      exact ⟨by kernel_rfl, fun j t ht => by
        rw [Tryd.params5] at ht
        have hm : t ∈ [24, 25, 3] := by simpa using Array.mem_of_getElem? ht
        have hall : ([24, 25, 3].all fun u => !Tryd.prog.wantsStandIn u) = true := by kernel_rfl
        exact (show Tryd.prog.wantsStandIn t = false by simpa using List.all_eq_true.1 hall t hm)⟩)
    (by kernel_rfl)
end Go.Proofs.YtlpmammagebkfaaDoor
