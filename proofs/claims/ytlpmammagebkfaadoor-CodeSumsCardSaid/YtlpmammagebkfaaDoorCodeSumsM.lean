/- The tied card of downpourlaw11.CodeSums. -/
import Derived.Test.YtlpmammagebkfaaDoorZ9
namespace Go.Proofs.YtlpmammagebkfaaDoor.Cd
open Go.RowKit
open VecM RdM Vc Sp Pc
/-- four cells in a box below what is one's own -/
theorem own_set4 {w : World} {base b n : Nat} {e : TypeId} {v : Value} {xs : List Value} (h : w.ownsRow base e 1 v n xs) (hb : b < base) (v0 v1 v2 v3 : Value) : ((((w.setCell ⟨b, 0, none⟩ v0).setCell ⟨b, 1, none⟩ v1).setCell ⟨b, 2, none⟩ v2).setCell ⟨b, 3, none⟩ v3).ownsRow base e 1 v n xs := by
  have hbo : ∀ g, v.ownBlock = some g → some b ≠ some g := fun g e => by
    have h1 := (h.lt g e).1
    intro h; injection h with h; omega
  exact own_grown (own_grown (own_grown (own_grown h (grown_set1 w b 0 v0) hbo) (grown_set1 _ b 1 v1) hbo) (grown_set1 _ b 2 v2) hbo) (grown_set1 _ b 3 v3) hbo
theorem below_set4 {w w1 : World} {B b : Nat} (h : Below B w w1) (hb : B ≤ b) (v0 v1 v2 v3 : Value) : Below B w ((((w1.setCell ⟨b, 0, none⟩ v0).setCell ⟨b, 1, none⟩ v1).setCell ⟨b, 2, none⟩ v2).setCell ⟨b, 3, none⟩ v3) :=
  (((h.setCell hb _).setCell hb _).setCell hb _).setCell hb _
theorem count_zero (Z : Int) : BlkM.count 0 Z = 0 := by
  unfold BlkM.count
  rw [if_pos (by omega)]
set_option maxRecDepth 100000 in
set_option maxHeartbeats 3200000 in
theorem cdnil_walk (s n c id : Nat) (K0 P0 Z0 : Int) (A : Option Addr) (l : List UInt8) (w : World) (ht : DTab w) (hr : Row w w.heap.size A n (bv l)) (hn : n ≤ c ∧ c ≤ 9223372036854775807) :
    Calls Tryd.prog 4 #[parV s K0 P0 Z0, .slice A n c, .int .u32 (id : Int)] w fun e w' => e = .returned (.bool true) ∧ Below w.heap.size w w' := by
  have hal : Below w.heap.size w (w.alloc (.cells #[.int .u32 (s : Int), .int .i64 K0, .int .i64 P0, .int .i64 Z0] 24)) := (Below.refl _ _).alloc (Nat.le_refl _) _
  have hx := heap_alloc_new w (.cells #[.int .u32 (s : Int), .int .i64 K0, .int .i64 P0, .int .i64 Z0] 24)
  have hz : (w.alloc (.cells #[.int .u32 (s : Int), .int .i64 K0, .int .i64 P0, .int .i64 Z0] 24)).heap.size = w.heap.size + 1 := by simp
  have HT := Lib.hid ht
  have HSO := Lib.hid (sound11_any s n c w.heap.size K0 P0 Z0 A l (w.alloc (.cells #[.int .u32 (s : Int), .int .i64 K0, .int .i64 P0, .int .i64 Z0] 24)) (hr.below hal) hn hal.size)
  have HAL := Lib.hid hal
  have HX := Lib.hid hx
  have HZ := Lib.hid hz
  obtain ⟨a0, a1, a2, a3⟩ := box4 hx
  unfold parV at HSO ⊢
  clear hal hx hz ht hr hn
  go_enter Tryd.func4, Tryd.ntmps4
  go_upto_region 2 with fail
  generalize (w.alloc (.cells #[.int .u32 (s : Int), .int .i64 K0, .int .i64 P0, .int .i64 Z0] 24)) = w0 at *
  go_wp2_with fail
  refine HSO.out.mono ?_
  rintro e w1 ⟨K, P, Z, A1, c1, img, rfl, hf, ho, hb1⟩
  have hx1 := (hb1.out.block w.heap.size (by have := HZ.out; omega)).trans HX.out
  obtain ⟨b0, b1, b2, b3⟩ := box4 hx1
  obtain ⟨f0, f1, f2, f3⟩ := frozenBox hx1
  have hx2 := setBox hx1 (.int .u32 (s : Int)) (.int .i64 (K : Int)) (.int .i64 (P : Int)) (.int .i64 (Z : Int))
  have HX2 := Lib.hid hx2
  have HF := hf
  have HB1 := hb1
  clear a0 a1 a2 a3 hx1 hx2 HSO hf hb1
  unfold parV
  go_upto_region 3 with fail
  have HO2 := Lib.hid (own_set4 ho.out (b := w.heap.size) (by have := HZ.out; omega) (.int .u32 (s : Int)) (.int .i64 (K : Int)) (.int .i64 (P : Int)) (.int .i64 (Z : Int)))
  have HB2 := Lib.hid (below_set4 (b := w.heap.size) (HAL.out.trans (HB1.out.mono HAL.out.size)) (Nat.le_refl _) (.int .u32 (s : Int)) (.int .i64 (K : Int)) (.int .i64 (P : Int)) (.int .i64 (Z : Int)))
  clear b0 b1 b2 b3 f0 f1 f2 f3 ho HB1
  generalize ((((w1.setCell ⟨w.heap.size, 0, none⟩ (.int .u32 (s : Int))).setCell ⟨w.heap.size, 1, none⟩ (.int .i64 (K : Int))).setCell ⟨w.heap.size, 2, none⟩ (.int .i64 (P : Int))).setCell ⟨w.heap.size, 3, none⟩ (.int .i64 (Z : Int))) = w2 at *
  obtain ⟨⟨hK1, hK2⟩, hP1, ⟨hZ1, hZ2⟩, ⟨hi1, hi2⟩, hcn⟩ := HF.out
  have HK1 : Hid ((1 ≤ K ∧ K ≤ 64) ∧ P ≤ 16 ∧ (1 ≤ Z ∧ Z ≤ 16)) := Lib.hid ⟨⟨hK1, hK2⟩, hP1, hZ1, hZ2⟩
  have HNE : Hid (((BlkM.count (img.length : Int) (Z : Int) : Nat) : Int) ≠ ((K : Int) + 1)) := Lib.hid (by rw [hcn]; omega)
  have HNZ : Hid (((BlkM.count ((0 : Nat) : Int) (Z : Int) : Nat) : Int) ≠ (K : Int)) := Lib.hid (by rw [show ((0 : Nat) : Int) = 0 from rfl, count_zero]; omega)
  obtain ⟨b0, b1, b2, b3⟩ := box4 HX2.out
  have hkk : (K : Int) ≤ 64 ∧ 1 ≤ (K : Int) := by omega
  have hk1 := hkk.1
  have hk2 := hkk.2
  clear hkk hK1 hK2 hP1 hZ1 hZ2 hi1 hi2 hcn
  go_upto_region 5 with fail
  have hal3 : Below w2.heap.size w2 (w2.alloc (.cells #[.int .u32 (s : Int), .int .i64 ((K : Int) + 1), .int .i64 (P : Int), .int .i64 (Z : Int)] 24)) := (Below.refl _ _).alloc (Nat.le_refl _) _
  have hx3 := heap_alloc_new w2 (.cells #[.int .u32 (s : Int), .int .i64 ((K : Int) + 1), .int .i64 (P : Int), .int .i64 (Z : Int)] 24)
  have HX3 := Lib.hid hx3
  have HX4 : Hid ((w2.alloc (.cells #[.int .u32 (s : Int), .int .i64 ((K : Int) + 1), .int .i64 (P : Int), .int .i64 (Z : Int)] 24)).heap[w.heap.size]? = _) := Lib.hid ((hal3.block w.heap.size (Array.getElem?_eq_some_iff.1 HX2.out).1).trans HX2.out)
  have HB3 := Lib.hid (HB2.out.trans (hal3.mono HB2.out.size))
  have hz3 : w2.heap.size < (w2.alloc (.cells #[.int .u32 (s : Int), .int .i64 ((K : Int) + 1), .int .i64 (P : Int), .int .i64 (Z : Int)] 24)).heap.size := by simp
  have HZ3 := Lib.hid hz3
  have HZ4 : Hid (w.heap.size < (w2.alloc (.cells #[.int .u32 (s : Int), .int .i64 ((K : Int) + 1), .int .i64 (P : Int), .int .i64 (Z : Int)] 24)).heap.size) := Lib.hid (Nat.lt_trans (Array.getElem?_eq_some_iff.1 HX2.out).1 hz3)
  have HO3 := Lib.hid (own_below HO2.out hal3)
  clear b0 b1 b2 b3 hal3 hx3 hz3 HX2 HO2 HB2
  generalize (w2.alloc (.cells #[.int .u32 (s : Int), .int .i64 ((K : Int) + 1), .int .i64 (P : Int), .int .i64 (Z : Int)] 24)) = w3 at *
  have KX3 := Lib.hid (fun (W : World) (hW : Below w3.heap.size w3 W) => box4 ((hW.block w2.heap.size HZ3.out).trans HX3.out))
  have KX4 := Lib.hid (fun (W : World) (hW : Below w3.heap.size w3 W) => box4 ((hW.block w.heap.size HZ4.out).trans HX4.out))
  go_wp2_with fail
  refine (sym_nil id w3).mono ?_
  rintro e w4 ⟨A4, n4, c4, rfl, hn4, _, hb4⟩
  have hn4' : n4 = 0 := hn4
  subst hn4'
  have HB4 := Lib.hid hb4
  clear hn4 hb4
  go_wp2_with fail
  refine (pcs_nil w4).mono ?_
  rintro e w5 ⟨rfl, hb5⟩
  have HB5 := Lib.hid (HB4.out.trans (hb5.out.mono HB4.out.size))
  clear hb5
  obtain ⟨b0, b1, b2, b3⟩ := KX3.out w5 HB5.out
  have hone : (K : Int) + 1 ≤ 65 := by omega
  go_wp2_with fail
  refine (new_no s ((K : Int) + 1) (P : Int) (Z : Int) A1 img.length c1 w5 (.inr HNE.out)).mono ?_
  rintro e w6 ⟨rfl, hb6⟩
  have HB6 := Lib.hid (HB5.out.trans (hb6.out.mono HB5.out.size))
  clear hb6 b0 b1 b2 b3
  obtain ⟨b0, b1, b2, b3⟩ := KX4.out w6 HB6.out
  go_wp2_with fail
  refine (new_no s (K : Int) (P : Int) (Z : Int) none 0 0 w6 (.inr HNZ.out)).mono ?_
  rintro e w7 ⟨rfl, hb7⟩
  have HB7 := Lib.hid (HB6.out.trans (hb7.out.mono HB6.out.size))
  clear hb7 b0 b1 b2 b3
  go_wp2_with fail
  refine (awake11_any w7 (HT.out.grow (HB3.out.trans (HB7.out.mono HB3.out.size)))).mono ?_
  rintro e w8 ⟨rfl, hb8⟩
  have HB8 := Lib.hid (HB3.out.trans ((HB7.out.trans (hb8.out.mono HB7.out.size)).mono HB3.out.size))
  clear hb8
  go_wp2_with fail
  go_ret
  exact ⟨rfl, HB8.out⟩
end Go.Proofs.YtlpmammagebkfaaDoor.Cd
namespace Go.Proofs.YtlpmammagebkfaaDoor.Cd
open Go.RowKit
open VecM RdM Vc Sp Pc
/-- Q was true of memory when it ended at U at most; its blocks from B to U are as they were -/
def Kept (Q : World → Prop) (B U : Nat) (W : World) : Prop := ∃ W0, Q W0 ∧ W0.heap.size ≤ U ∧ U ≤ W.heap.size ∧ ∀ b, B ≤ b → b < U → W.heap[b]? = W0.heap[b]?
theorem Kept.new {Q : World → Prop} {W : World} (h : Q W) (B : Nat) : Kept Q B W.heap.size W := ⟨W, h, Nat.le_refl _, Nat.le_refl _, fun _ _ _ => rfl⟩
theorem Kept.below {Q : World → Prop} {B U : Nat} {W W' : World} (h : Kept Q B U W) (hb : Below W.heap.size W W') : Kept Q B U W' := by
  obtain ⟨W0, h1, h2, h3, h4⟩ := h
  exact ⟨W0, h1, h2, Nat.le_trans h3 hb.size, fun b hb1 hb2 => (hb.block b (Nat.lt_of_lt_of_le hb2 h3)).trans (h4 b hb1 hb2)⟩
theorem Kept.but {Q : World → Prop} {B U g : Nat} {W W' : World} (h : Kept Q B U W) (hb : But W.heap.size g W W') (hg : g < B ∨ U ≤ g) : Kept Q B U W' := by
  obtain ⟨W0, h1, h2, h3, h4⟩ := h
  exact ⟨W0, h1, h2, Nat.le_trans h3 hb.size, fun b hb1 hb2 => (hb.block b (Nat.lt_of_lt_of_le hb2 h3) (by rcases hg with h | h <;> omega)).trans (h4 b hb1 hb2)⟩
theorem Kept.drew {Q : World → Prop} {B U : Nat} {W : World} (h : Kept Q B U W) : Kept Q B U W.drew := h
theorem own_keep2 {W W' : World} {base n c : Nat} {e : TypeId} {A : Option Addr} {xs : List Value} (h : W.ownsRow base e 1 (.slice A n c) n xs) (hk : ∀ b, base ≤ b → b < W.heap.size → W'.heap[b]? = W.heap[b]?) : W'.ownsRow base e 1 (.slice A n c) n xs := by
  refine ⟨h.1, ?_⟩
  rcases h.2 with h0 | ⟨g, cap, cur, hv, hb, hg, r⟩
  · exact .inl h0
  · refine .inr ⟨g, cap, cur, hv, hb, ?_, r⟩
    rw [hk g hb (Array.getElem?_eq_some_iff.1 hg).1]
    exact hg
theorem PW.keep2 {ls : List (List UInt8)} {B n c : Nat} {A : Option Addr} {W W' : World} (h : PW ls B (.slice A n c) W) (hn : ls.length = n) (hk : ∀ b, B ≤ b → b < W.heap.size → W'.heap[b]? = W.heap[b]?) : PW ls B (.slice A n c) W' := by
  subst hn
  obtain ⟨es, h1, h2, h3⟩ := h
  refine ⟨es, h1, own_keep2 h2 hk, fun r hr => ?_⟩
  obtain ⟨g, a, q, o⟩ := h3 r hr
  exact ⟨g, a, q, own_keep2 o hk⟩
theorem Kept.own {base n c U : Nat} {e : TypeId} {A : Option Addr} {xs : List Value} {W : World} (h : Kept (fun W => W.ownsRow base e 1 (.slice A n c) n xs) base U W) : W.ownsRow base e 1 (.slice A n c) n xs := by
  obtain ⟨W0, h1, h2, h3, h4⟩ := h
  exact own_keep2 h1 fun b hb1 hb2 => h4 b hb1 (Nat.lt_of_lt_of_le hb2 h2)
theorem Kept.pw {ls : List (List UInt8)} {B n c U : Nat} {A : Option Addr} {W : World} (h : Kept (PW ls B (.slice A n c)) B U W) (hn : ls.length = n) : PW ls B (.slice A n c) W := by
  obtain ⟨W0, h1, h2, h3, h4⟩ := h
  exact PW.keep2 h1 hn fun b hb1 hb2 => h4 b hb1 (Nat.lt_of_lt_of_le hb2 h2)
theorem Kept.hf {s K P Z B U g : Nat} {img : List UInt8} {W : World} (h : Kept (HFq s K P Z img B g) B U W) : HF s K P Z img W g := by
  obtain ⟨W0, h1, h2, h3, h4⟩ := h
  exact (h1.keep fun b hb1 hb2 => h4 b hb1 (Nat.lt_of_lt_of_le hb2 h2)).hf
end Go.Proofs.YtlpmammagebkfaaDoor.Cd
namespace Go.Proofs.YtlpmammagebkfaaDoor.Cd
open Go.RowKit
open VecM RdM Vc Sp Pc
theorem pw_rows2 {ls : List (List UInt8)} {base n c : Nat} {A : Option Addr} {w : World} (h : PW ls base (.slice A n c) w) (hn : ls.length = n) (h0 : 0 < n) : ∃ gA es, A = some ⟨gA, 0, none⟩ ∧ es.map (·.l) = ls ∧ Rows2 w w.heap.size (some ⟨gA, 0, none⟩) n es ∧ (∀ r ∈ es, r.n ≤ r.c ∧ r.c ≤ 9223372036854775807) ∧ n ≤ c ∧ c ≤ 9223372036854775807 := by
  subst hn
  obtain ⟨es, h1, h2, h3⟩ := h
  have hcap := own_cap h2
  have hrow := Row.of_own h2
  obtain ⟨A', c', e, _, _, q⟩ := own_slice h2
  injection e with e1 e2 e3
  subst e1
  rcases q with q | ⟨gA, q, _⟩
  · subst q
    obtain ⟨b, o, e, _⟩ := hrow.2 h0
    cases e
  · subst q
    exact ⟨gA, es, rfl, h1, ⟨hrow, fun r hr => by obtain ⟨g, _, _, q⟩ := h3 r hr; exact Row.of_own q⟩, fun r hr => by obtain ⟨g, _, _, q⟩ := h3 r hr; exact own_cap q, hcap⟩
theorem rows2_head {w : World} {B n k : Nat} {A : Option Addr} {es : List BRow} (h : Rows2 w B A n es) (hk : k ≤ n) : Rows2 w B A k (es.take k) := by
  refine ⟨?_, fun r hr => h.2 r (List.mem_of_mem_take hr)⟩
  have := h.1.head hk
  rw [List.map_take]
  exact this
set_option maxRecDepth 100000 in
set_option maxHeartbeats 6400000 in
theorem cdsum_walk (s n c id id2 : Nat) (K0 P0 Z0 : Int) (A : Option Addr) (l : List UInt8) (w : World) (ht : DTab w) (hs : s < 4294967296) (hid : id < 4294967296) (hid2 : id2 < 4294967296) (hr : Row w w.heap.size A n (bv l)) (hn : n ≤ c ∧ c ≤ 9223372036854775807) :
    Calls Tryd.prog 3 #[parV s K0 P0 Z0, .slice A n c, .int .u32 (id : Int), .int .u32 (id2 : Int)] w fun e w' => e = .returned (.bool true) ∧ Below w.heap.size w w' := by
  obtain ⟨i0, hi, hz0, hz1, hz2⟩ := info_parts Tryd.info25
  have HID := Lib.hid hid
  have HID2 := Lib.hid hid2
  clear hid hid2
  have hal : Below w.heap.size w (w.alloc (.cells #[.int .u32 (s : Int), .int .i64 K0, .int .i64 P0, .int .i64 Z0] 24)) := (Below.refl _ _).alloc (Nat.le_refl _) _
  have hx := heap_alloc_new w (.cells #[.int .u32 (s : Int), .int .i64 K0, .int .i64 P0, .int .i64 Z0] 24)
  have hz : (w.alloc (.cells #[.int .u32 (s : Int), .int .i64 K0, .int .i64 P0, .int .i64 Z0] 24)).heap.size = w.heap.size + 1 := by simp
  have HT := Lib.hid ht
  have HSO := Lib.hid (sound11_any s n c w.heap.size K0 P0 Z0 A l (w.alloc (.cells #[.int .u32 (s : Int), .int .i64 K0, .int .i64 P0, .int .i64 Z0] 24)) (hr.below hal) hn hal.size)
  have HAL := Lib.hid hal
  have HX := Lib.hid hx
  have HZ := Lib.hid hz
  obtain ⟨a0, a1, a2, a3⟩ := box4 hx
  have HS := Lib.hid hs
  unfold parV at HSO ⊢
  clear hal hx hz ht hr hn hs
  go_enter Tryd.func3, Tryd.ntmps3
  go_upto_region 1 with fail
  generalize (w.alloc (.cells #[.int .u32 (s : Int), .int .i64 K0, .int .i64 P0, .int .i64 Z0] 24)) = w0 at *
  go_wp2_with fail
  refine HSO.out.mono ?_
  rintro e w1 ⟨kk, P, Z, A1, c1, img, rfl, hf, ho, hb1⟩
  have hx1 := (hb1.out.block w.heap.size (by have := HZ.out; omega)).trans HX.out
  obtain ⟨b0, b1, b2, b3⟩ := box4 hx1
  obtain ⟨f0, f1, f2, f3⟩ := frozenBox hx1
  have HX2 := Lib.hid (setBox hx1 (.int .u32 (s : Int)) (.int .i64 (kk : Int)) (.int .i64 (P : Int)) (.int .i64 (Z : Int)))
  have HB1 := hb1
  have HO2 := Lib.hid (own_set4 ho.out (b := w.heap.size) (by have := HZ.out; omega) (.int .u32 (s : Int)) (.int .i64 (kk : Int)) (.int .i64 (P : Int)) (.int .i64 (Z : Int)))
  have HB2 := Lib.hid (below_set4 (b := w.heap.size) (HAL.out.trans (HB1.out.mono HAL.out.size)) (Nat.le_refl _) (.int .u32 (s : Int)) (.int .i64 (kk : Int)) (.int .i64 (P : Int)) (.int .i64 (Z : Int)))
  clear a0 a1 a2 a3 hx1 HSO hb1 ho HB1
  unfold parV
  go_upto_region 2 with fail
  clear b0 b1 b2 b3 f0 f1 f2 f3
  generalize ((((w1.setCell ⟨w.heap.size, 0, none⟩ (.int .u32 (s : Int))).setCell ⟨w.heap.size, 1, none⟩ (.int .i64 (kk : Int))).setCell ⟨w.heap.size, 2, none⟩ (.int .i64 (P : Int))).setCell ⟨w.heap.size, 3, none⟩ (.int .i64 (Z : Int))) = w2 at *
  obtain ⟨HK, HP, HZZ, HI, HCN⟩ : Hid (1 ≤ kk ∧ kk ≤ 64) ∧ Hid (P ≤ 16) ∧ Hid (1 ≤ Z ∧ Z ≤ 16) ∧ Hid (1 ≤ img.length ∧ img.length ≤ 301) ∧ Hid (BlkM.count (img.length : Int) (Z : Int) = kk) := hf.out
  have hcap := own_cap HO2.out
  have hlt2 : w.heap.size < w2.heap.size := (Array.getElem?_eq_some_iff.1 HX2.out).1
  have HLT2 := Lib.hid hlt2
  clear hf hcap hlt2
  obtain ⟨x0, x1, x2, x3⟩ := box4 HX2.out
  go_wp2_with fail
  refine (new_yes s kk P Z w2.heap.size c1 A1 img w2 HK.out HP.out HZZ.out (Row.of_own HO2.out) (Nat.le_refl _) (by have := HI.out; omega) HCN.out).mono ?_
  rintro e w3 ⟨g, rfl, hg, hg3, hq3, hb3⟩
  have HF3 := Lib.hid hq3.out.hf
  have HB3 := Lib.hid (HB2.out.trans (hb3.out.mono HB2.out.size))
  have HT3 := Lib.hid (HT.out.grow HB3.out)
  have S1 := Lib.hid (sym_gen s kk P Z id2 g _ img _ w3 HS.out HID2.out HK.out HP.out HZZ.out (grows_but HF3.out HT3.out) (made_first s kk P Z g img w3 HS.out HK.out HP.out HZZ.out HCN.out HF3.out))
  clear x0 x1 x2 x3 hq3
  go_wp2_with fail
  refine S1.out.mono ?_
  rintro e w4 ⟨A4, n4, c4, rfl, hn4, ho4, HM4, hr4⟩
  obtain rfl : Z = n4 := (hn4.out.trans (symX_length HK.out.1 (by have := HK.out; have := HP.out; omega))).symm
  have HB4 : Hid (Below w2.heap.size w2 w4) := Lib.hid (hb3.out.trans (hr4.out.below hg hb3.out.size))
  have HT4 := Lib.hid (HT.out.grow (HB2.out.trans (HB4.out.mono HB2.out.size)))
  obtain ⟨Am, cm, hvm⟩ := HM4.out.hv
  have S2 := Lib.hid (sym_gen s kk P Z id g _ img _ w4 HS.out HID.out HK.out HP.out HZZ.out (grows_below HT4.out) (made_done s kk P Z cm g _ Am img w4 hvm))
  clear S1 hn4 hr4 hvm HF3 HT3 hb3 hg3
  go_wp2_with fail
  refine S2.out.mono ?_
  rintro e w5 ⟨A5, n5, c5, rfl, hn5, ho5, HM5, hr5⟩
  obtain rfl : Z = n5 := (hn5.out.trans (symX_length HK.out.1 (by have := HK.out; have := HP.out; omega))).symm
  have HB5 : Hid (Below w2.heap.size w2 w5) := Lib.hid (HB4.out.trans (hr5.out.mono HB4.out.size))
  have HT5 := Lib.hid (HT.out.grow (HB2.out.trans (HB5.out.mono HB2.out.size)))
  have HO45 := Lib.hid (own_below ho4.out hr5.out)
  obtain ⟨Am5, cm5, hvm5⟩ := HM5.out.hv
  have S3 := Lib.hid (pcs_gen s kk P Z g _ img _ w5 HK.out HP.out HZZ.out (grows_below HT5.out) (made_done s kk P Z cm5 g _ Am5 img w5 hvm5))
  clear S2 hn5 hr5 hvm5 ho4 HM4 HB4 HT4
  go_wp2_with fail
  refine S3.out.mono ?_
  rintro e w6 ⟨A6, c6, rfl, hp6, HM6, hr6⟩
  have HBW : Hid (Below w2.heap.size w2 w6) := Lib.hid (HB5.out.trans (hr6.out.mono HB5.out.size))
  have HB6 : Hid (Below w.heap.size w w6) := Lib.hid (HB2.out.trans (HBW.out.mono HB2.out.size))
  have HO46 := Lib.hid (own_below HO45.out hr6.out)
  have HO56 := Lib.hid (own_below ho5.out hr6.out)
  have hlen1 : 0 < kk + P := by have := HK.out; omega
  obtain ⟨gA, es, rfl, hea, hra, hbg, hc6⟩ := pw_rows2 hp6.out (allC_length _ _ _ _ _) hlen1
  have HRS := Lib.hid hra
  have HC6 := Lib.hid hc6
  have HES := Lib.hid hea
  have HBG : Hid (∀ r ∈ es.take kk, r.n ≤ r.c ∧ r.c ≤ 9223372036854775807) := Lib.hid fun r hr => hbg r (List.mem_of_mem_take hr)
  have HFX : Hid (∀ W, Below w6.heap.size w6 W → (W.cell? ⟨w.heap.size, 0, none⟩ = some (.int .u32 (s : Int)) ∧ W.cell? ⟨w.heap.size, 1, none⟩ = some (.int .i64 (kk : Int)) ∧ W.cell? ⟨w.heap.size, 2, none⟩ = some (.int .i64 (P : Int)) ∧ W.cell? ⟨w.heap.size, 3, none⟩ = some (.int .i64 (Z : Int))) ∧ True) := Lib.hid fun W hW => ⟨box4 (((HBW.out.trans (hW.mono HBW.out.size)).block w.heap.size HLT2.out).trans HX2.out), trivial⟩
  have HIM : Hid (∀ W, Below w6.heap.size w6 W → Row W w6.heap.size A1 img.length (bv img)) := Lib.hid fun W hW => ((Row.of_own HO2.out).below (HBW.out.trans (hW.mono HBW.out.size))).more HBW.out.size
  have HMK : Hid (∀ W, Below w6.heap.size w6 W → HM s kk P Z img W (w3.heap.size + 1) g) := Lib.hid fun W hW => HM6.out.below hW
  have HDT : Hid (∀ W, Below w6.heap.size w6 W → DTab W) := Lib.hid fun W hW => HT.out.grow (HB6.out.trans (hW.mono HB6.out.size))
  have HC4 := Lib.hid (conv_own c4 HO46.out)
  have HC5 := Lib.hid (conv_own c5 HO56.out)
  have HCIM := Lib.hid (conv_row c1 (Row.of_own (own_below HO2.out HBW.out)) (Nat.le_refl _))
  have hkk6 : (kk : Int) ≤ 64 := by have := HK.out; omega
  have hpp6 : (P : Int) ≤ 16 := by have := HP.out; omega
  clear S3 hp6 hr6 ho5 HM5 HB5 HT5 HO45 HO46 HO56 HM6 hea hra hbg hc6 hlen1 HX2 HT hg
  have hnp1 : (((kk + P : Nat) : Int) != (kk : Int) + (P : Int)) = false := by simp
  have hnp2 : ((kk : Int) + (P : Int) != (kk : Int) + (P : Int)) = false := by simp
  have hnp4 : IntKind.i64.wrap ((kk : Int) + (P : Int)) = (kk : Int) + (P : Int) := by rw [IntKind.wrap_i64]; omega
  have hnp3 : ((Z : Int) != (Z : Int)) = false := by simp
  go_upto_region 6 with fail
  refine wp_region_noPanic ?_
  refine wp_region_held_drew (S := (fun W => Below (w6.heap.size) w6 W)) (by kernel_rfl) (Below.refl _ _).drew (fun hH0 => ?_)
  have hH0 : Below (w6.heap.size) w6 w6.drew := hH0
  generalize w6.drew = wd4000 at *
  refine wpAnyH_take (i := 0) (oi := { dst := some 33, op := Op.move (Operand.tmp 9), type := 28, pos := "law.go:59", after := #[], guard := none }) (v := ?tkv4001) rfl (by kernel_rfl) (by kernel_rfl) (by kernel_rfl) (fun _ _ _ h => h) (Or.inl ⟨by rfl, ?tky4001⟩) hH0 ?tkr4001
  case tky4001 => (intro w' hSw; clear hSw; go_simp; try with_reducible rfl)
  try simp only [Act.put, List.setIfInBounds_toArray, List.set_cons_zero, List.set_cons_succ]
  refine wpAnyH_take (i := 1) (oi := { dst := some 34, op := Op.binOp BinOp.eql 28 (Operand.tmp 33) (Operand.const (Value.pointer none)) 28, type := 4, pos := "law.go:59", after := #[{ on := 0, ground := Ground.data }], guard := none }) (v := ?tkv4002) rfl (by kernel_rfl) (by kernel_rfl) (by kernel_rfl) (fun _ _ _ h => h) (Or.inl ⟨by rfl, ?tky4002⟩) hH0 ?tkr4002
  case tky4002 => (intro w' hSw; clear hSw; go_simp; try with_reducible rfl)
  try simp only [Act.put, List.setIfInBounds_toArray, List.set_cons_zero, List.set_cons_succ]
  refine wpAnyH_take (i := 2) (oi := { dst := some 35, op := Op.move (Operand.tmp 34), type := 4, pos := "law.go:59", after := #[{ on := 1, ground := Ground.data }], guard := none }) (v := ?tkv4003) rfl (by kernel_rfl) (by kernel_rfl) (by kernel_rfl) (fun _ _ _ h => h) (Or.inl ⟨by rfl, ?tky4003⟩) hH0 ?tkr4003
  case tky4003 => (intro w' hSw; clear hSw; go_simp; try with_reducible rfl)
  try simp only [Act.put, List.setIfInBounds_toArray, List.set_cons_zero, List.set_cons_succ]
  refine wpAnyH_take (i := 3) (oi := { dst := some 36, op := Op.move (Operand.tmp 11), type := 25, pos := "law.go:59", after := #[{ on := 2, ground := Ground.guard }], guard := some (2, false) }) (v := ?tkv4004) rfl (by kernel_rfl) (by kernel_rfl) (by kernel_rfl) (fun _ _ _ h => h) (Or.inl ⟨by rfl, ?tky4004⟩) hH0 ?tkr4004
  case tky4004 => (intro w' hSw; clear hSw; go_simp; try with_reducible rfl)
  try simp only [Act.put, List.setIfInBounds_toArray, List.set_cons_zero, List.set_cons_succ]
  refine wpAnyH_take (i := 4) (oi := { dst := some 37, op := Op.call { callee := Callee.builtin Builtin.len, args := #[Operand.tmp 36], argTypes := #[25] }, type := 3, pos := "law.go:59", after := #[{ on := 3, ground := Ground.data }, { on := 2, ground := Ground.guard }], guard := some (2, false) }) (v := ?tkv4005) rfl (by kernel_rfl) (by kernel_rfl) (by kernel_rfl) (fun _ _ _ h => h) (Or.inl ⟨by rfl, ?tky4005⟩) hH0 ?tkr4005
  case tky4005 => (intro w' hSw; clear hSw; go_simp; try with_reducible rfl)
  try simp only [Act.put, List.setIfInBounds_toArray, List.set_cons_zero, List.set_cons_succ]
  refine wpAnyH_take (i := 5) (oi := { dst := some 38, op := Op.fieldAddr 24 (Operand.tmp 4) 3, type := 0, pos := "law.go:59", after := #[{ on := 2, ground := Ground.guard }], guard := some (2, false) }) (v := ?tkv4006) rfl (by kernel_rfl) (by kernel_rfl) (by kernel_rfl) (fun _ _ _ h => h) (Or.inl ⟨by rfl, ?tky4006⟩) hH0 ?tkr4006
  case tky4006 => (intro w' hSw; clear hSw; go_simp; try with_reducible rfl)
  try simp only [Act.put, List.setIfInBounds_toArray, List.set_cons_zero, List.set_cons_succ]
  refine wpAnyH_take (i := 6) (oi := { dst := some 39, op := Op.load 3 (Operand.tmp 38), type := 3, pos := "law.go:59", after := #[{ on := 5, ground := Ground.data }, { on := 2, ground := Ground.guard }], guard := some (2, false) }) (v := ?tkv4007) rfl (by kernel_rfl) (by kernel_rfl) (by kernel_rfl) (fun _ _ _ h => h) (Or.inl ⟨by rfl, ?tky4007⟩) hH0 ?tkr4007
  case tky4007 => (intro w' hSw; have z0 := HFX.out _ hSw; have z1 := HC4.out _ hSw; have z2 := HC5.out _ hSw; clear hSw; go_simp; try with_reducible rfl)
  try simp only [Act.put, List.setIfInBounds_toArray, List.set_cons_zero, List.set_cons_succ]
  refine wpAnyH_take (i := 7) (oi := { dst := some 40, op := Op.binOp BinOp.neq 3 (Operand.tmp 37) (Operand.tmp 39) 3, type := 4, pos := "law.go:59", after := #[{ on := 4, ground := Ground.data }, { on := 6, ground := Ground.data }, { on := 2, ground := Ground.guard }], guard := some (2, false) }) (v := ?tkv4008) rfl (by kernel_rfl) (by kernel_rfl) (by kernel_rfl) (fun _ _ _ h => h) (Or.inl ⟨by rfl, ?tky4008⟩) hH0 ?tkr4008
  case tky4008 => (intro w' hSw; clear hSw; go_simp; try with_reducible rfl)
  try simp only [Act.put, List.setIfInBounds_toArray, List.set_cons_zero, List.set_cons_succ]
  refine wpAnyH_take (i := 8) (oi := { dst := some 41, op := Op.pick (Operand.tmp 35) (Operand.const (Value.bool true)) (Operand.tmp 40), type := 4, pos := "law.go:59", after := #[{ on := 2, ground := Ground.data }, { on := 7, ground := Ground.data }], guard := none }) (v := ?tkv4009) rfl (by kernel_rfl) (by kernel_rfl) (by kernel_rfl) (fun _ _ _ h => h) (Or.inl ⟨by rfl, ?tky4009⟩) hH0 ?tkr4009
  case tky4009 => (intro w' hSw; clear hSw; go_simp; try with_reducible rfl)
  try simp only [Act.put, List.setIfInBounds_toArray, List.set_cons_zero, List.set_cons_succ]
  refine wpAnyH_take (i := 9) (oi := { dst := some 42, op := Op.move (Operand.tmp 41), type := 4, pos := "law.go:59", after := #[{ on := 8, ground := Ground.data }, { on := 2, ground := Ground.chain }], guard := none }) (v := ?tkv4010) rfl (by kernel_rfl) (by kernel_rfl) (by kernel_rfl) (fun _ _ _ h => h) (Or.inl ⟨by rfl, ?tky4010⟩) hH0 ?tkr4010
  case tky4010 => (intro w' hSw; clear hSw; go_simp; try with_reducible rfl)
  try simp only [Act.put, List.setIfInBounds_toArray, List.set_cons_zero, List.set_cons_succ]
  refine wpAnyH_take (i := 10) (oi := { dst := some 43, op := Op.move (Operand.tmp 12), type := 31, pos := "law.go:59", after := #[{ on := 9, ground := Ground.guard }], guard := some (9, false) }) (v := ?tkv4011) rfl (by kernel_rfl) (by kernel_rfl) (by kernel_rfl) (fun _ _ _ h => h) (Or.inl ⟨by rfl, ?tky4011⟩) hH0 ?tkr4011
  case tky4011 => (intro w' hSw; clear hSw; go_simp; try with_reducible rfl)
  try simp only [Act.put, List.setIfInBounds_toArray, List.set_cons_zero, List.set_cons_succ]
  refine wpAnyH_take (i := 11) (oi := { dst := some 44, op := Op.call { callee := Callee.builtin Builtin.len, args := #[Operand.tmp 43], argTypes := #[31] }, type := 3, pos := "law.go:59", after := #[{ on := 10, ground := Ground.data }, { on := 9, ground := Ground.guard }], guard := some (9, false) }) (v := ?tkv4012) rfl (by kernel_rfl) (by kernel_rfl) (by kernel_rfl) (fun _ _ _ h => h) (Or.inl ⟨by rfl, ?tky4012⟩) hH0 ?tkr4012
  case tky4012 => (intro w' hSw; clear hSw; go_simp; try with_reducible rfl)
  try simp only [Act.put, List.setIfInBounds_toArray, List.set_cons_zero, List.set_cons_succ]
  refine wpAnyH_take (i := 12) (oi := { dst := some 45, op := Op.fieldAddr 24 (Operand.tmp 4) 1, type := 0, pos := "law.go:59", after := #[{ on := 9, ground := Ground.guard }], guard := some (9, false) }) (v := ?tkv4013) rfl (by kernel_rfl) (by kernel_rfl) (by kernel_rfl) (fun _ _ _ h => h) (Or.inl ⟨by rfl, ?tky4013⟩) hH0 ?tkr4013
  case tky4013 => (intro w' hSw; clear hSw; go_simp; try with_reducible rfl)
  try simp only [Act.put, List.setIfInBounds_toArray, List.set_cons_zero, List.set_cons_succ]
  refine wpAnyH_take (i := 13) (oi := { dst := some 46, op := Op.load 3 (Operand.tmp 45), type := 3, pos := "law.go:59", after := #[{ on := 12, ground := Ground.data }, { on := 9, ground := Ground.guard }], guard := some (9, false) }) (v := ?tkv4014) rfl (by kernel_rfl) (by kernel_rfl) (by kernel_rfl) (fun _ _ _ h => h) (Or.inl ⟨by rfl, ?tky4014⟩) hH0 ?tkr4014
  case tky4014 => (intro w' hSw; have z0 := HFX.out _ hSw; have z1 := HC4.out _ hSw; have z2 := HC5.out _ hSw; clear hSw; go_simp; try with_reducible rfl)
  try simp only [Act.put, List.setIfInBounds_toArray, List.set_cons_zero, List.set_cons_succ]
  refine wpAnyH_take (i := 14) (oi := { dst := some 47, op := Op.fieldAddr 24 (Operand.tmp 4) 2, type := 0, pos := "law.go:59", after := #[{ on := 9, ground := Ground.guard }], guard := some (9, false) }) (v := ?tkv4015) rfl (by kernel_rfl) (by kernel_rfl) (by kernel_rfl) (fun _ _ _ h => h) (Or.inl ⟨by rfl, ?tky4015⟩) hH0 ?tkr4015
  case tky4015 => (intro w' hSw; clear hSw; go_simp; try with_reducible rfl)
  try simp only [Act.put, List.setIfInBounds_toArray, List.set_cons_zero, List.set_cons_succ]
  refine wpAnyH_take (i := 15) (oi := { dst := some 48, op := Op.load 3 (Operand.tmp 47), type := 3, pos := "law.go:59", after := #[{ on := 14, ground := Ground.data }, { on := 9, ground := Ground.guard }], guard := some (9, false) }) (v := ?tkv4016) rfl (by kernel_rfl) (by kernel_rfl) (by kernel_rfl) (fun _ _ _ h => h) (Or.inl ⟨by rfl, ?tky4016⟩) hH0 ?tkr4016
  case tky4016 => (intro w' hSw; have z0 := HFX.out _ hSw; have z1 := HC4.out _ hSw; have z2 := HC5.out _ hSw; clear hSw; go_simp; try with_reducible rfl)
  try simp only [Act.put, List.setIfInBounds_toArray, List.set_cons_zero, List.set_cons_succ]
  refine wpAnyH_take (i := 16) (oi := { dst := some 49, op := Op.binOp BinOp.add 3 (Operand.tmp 46) (Operand.tmp 48) 3, type := 3, pos := "law.go:59", after := #[{ on := 13, ground := Ground.data }, { on := 15, ground := Ground.data }, { on := 9, ground := Ground.guard }], guard := some (9, false) }) (v := ?tkv4017) rfl (by kernel_rfl) (by kernel_rfl) (by kernel_rfl) (fun _ _ _ h => h) (Or.inl ⟨by rfl, ?tky4017⟩) hH0 ?tkr4017
  case tky4017 => (intro w' hSw; clear hSw; go_simp; try with_reducible rfl)
  try simp only [Act.put, List.setIfInBounds_toArray, List.set_cons_zero, List.set_cons_succ]
  refine wpAnyH_take (i := 17) (oi := { dst := some 50, op := Op.binOp BinOp.neq 3 (Operand.tmp 44) (Operand.tmp 49) 3, type := 4, pos := "law.go:59", after := #[{ on := 11, ground := Ground.data }, { on := 16, ground := Ground.data }, { on := 9, ground := Ground.guard }], guard := some (9, false) }) (v := ?tkv4018) rfl (by kernel_rfl) (by kernel_rfl) (by kernel_rfl) (fun _ _ _ h => h) (Or.inl ⟨by rfl, ?tky4018⟩) hH0 ?tkr4018
  case tky4018 => (intro w' hSw; clear hSw; go_simp; try with_reducible rfl)
  try simp only [Act.put, List.setIfInBounds_toArray, List.set_cons_zero, List.set_cons_succ]
  refine wpAnyH_take (i := 18) (oi := { dst := some 51, op := Op.pick (Operand.tmp 42) (Operand.const (Value.bool true)) (Operand.tmp 50), type := 4, pos := "law.go:59", after := #[{ on := 9, ground := Ground.data }, { on := 17, ground := Ground.data }], guard := none }) (v := ?tkv4019) rfl (by kernel_rfl) (by kernel_rfl) (by kernel_rfl) (fun _ _ _ h => h) (Or.inl ⟨by rfl, ?tky4019⟩) hH0 ?tkr4019
  case tky4019 => (intro w' hSw; clear hSw; go_simp; try with_reducible rfl)
  try simp only [Act.put, List.setIfInBounds_toArray, List.set_cons_zero, List.set_cons_succ]
  refine wpAnyH_take (i := 19) (oi := { dst := some 52, op := Op.move (Operand.tmp 51), type := 4, pos := "law.go:59", after := #[{ on := 18, ground := Ground.data }, { on := 9, ground := Ground.chain }], guard := none }) (v := ?tkv4020) rfl (by kernel_rfl) (by kernel_rfl) (by kernel_rfl) (fun _ _ _ h => h) (Or.inl ⟨by rfl, ?tky4020⟩) hH0 ?tkr4020
  case tky4020 => (intro w' hSw; clear hSw; go_simp; try with_reducible rfl)
  try simp only [Act.put, List.setIfInBounds_toArray, List.set_cons_zero, List.set_cons_succ]
  refine wpAnyH_take (i := 20) (oi := { dst := some 53, op := Op.move (Operand.tmp 9), type := 28, pos := "law.go:59", after := #[{ on := 19, ground := Ground.guard }], guard := some (19, false) }) (v := ?tkv4021) rfl (by kernel_rfl) (by kernel_rfl) (by kernel_rfl) (fun _ _ _ h => h) (Or.inl ⟨by rfl, ?tky4021⟩) hH0 ?tkr4021
  case tky4021 => (intro w' hSw; clear hSw; go_simp; try with_reducible rfl)
  try simp only [Act.put, List.setIfInBounds_toArray, List.set_cons_zero, List.set_cons_succ]
  refine wpAnyH_take (i := 21) (oi := { dst := some 54, op := Op.move (Operand.tmp 3), type := 22, pos := "law.go:59", after := #[{ on := 19, ground := Ground.guard }], guard := some (19, false) }) (v := ?tkv4022) rfl (by kernel_rfl) (by kernel_rfl) (by kernel_rfl) (fun _ _ _ h => h) (Or.inl ⟨by rfl, ?tky4022⟩) hH0 ?tkr4022
  case tky4022 => (intro w' hSw; clear hSw; go_simp; try with_reducible rfl)
  try simp only [Act.put, List.setIfInBounds_toArray, List.set_cons_zero, List.set_cons_succ]
  refine wpAnyH_take (i := 24) (oi := { dst := some 57, op := Op.move (Operand.tmp 10), type := 25, pos := "law.go:59", after := #[{ on := 19, ground := Ground.guard }], guard := some (19, false) }) (v := ?tkv4023) rfl (by kernel_rfl) (by kernel_rfl) (by kernel_rfl) (fun _ _ _ h => h) (Or.inl ⟨by rfl, ?tky4023⟩) hH0 ?tkr4023
  case tky4023 => (intro w' hSw; clear hSw; go_simp; try with_reducible rfl)
  try simp only [Act.put, List.setIfInBounds_toArray, List.set_cons_zero, List.set_cons_succ]
  refine wpAnyH_take (i := 25) (oi := { dst := some 58, op := Op.convert 25 9 (Operand.tmp 57), type := 9, pos := "law.go:59", after := #[{ on := 24, ground := Ground.data }, { on := 19, ground := Ground.guard }], guard := some (19, false) }) (v := ?tkv4024) rfl (by kernel_rfl) (by kernel_rfl) (by kernel_rfl) (fun _ _ _ h => h) (Or.inl ⟨by rfl, ?tky4024⟩) hH0 ?tkr4024
  case tky4024 => (intro w' hSw; have z0 := HFX.out _ hSw; have z1 := HC4.out _ hSw; have z2 := HC5.out _ hSw; clear hSw; go_simp; try with_reducible rfl)
  try simp only [Act.put, List.setIfInBounds_toArray, List.set_cons_zero, List.set_cons_succ]
  refine wpAnyH_ready (rs := [22]) (by kernel_rfl) (by simp) ?_
  refine AllReadyH.cons (o := { dst := some 55, op := Op.call { callee := Callee.value (Operand.func 9), args := #[Operand.tmp 53, Operand.tmp 54], argTypes := #[28, 22] }, type := 25, pos := "law.go:59", after := #[{ on := 20, ground := Ground.data }, { on := 21, ground := Ground.data }, { on := 19, ground := Ground.chain }, { on := 19, ground := Ground.guard }], guard := some (19, false) }) rfl (fun K hK => ?_) AllReadyH.nil
  go_simp
  obtain ⟨Am4025, cm4025, hvm4025⟩ := (HMK.out wd4000 (hH0)).hv
  refine (sym_gen s kk P Z id2 g _ img _ wd4000 HS.out HID2.out HK.out HP.out HZZ.out (grows_below (HDT.out wd4000 (hH0))) (made_done s kk P Z cm4025 g _ Am4025 img wd4000 hvm4025)).mono ?_
  rintro e' wn4025 ⟨A4025, n4025, c4025, rfl, hn4025, ho4025, _, hr4025⟩
  have hb4025 := hr4025.out
  have HO4025 := Lib.hid ho4025.out
  clear hvm4025 hn4025 ho4025 hr4025
  go_simp
  have hS4025 : Below (w6.heap.size) w6 wn4025 := (hH0).trans (hb4025.mono (hH0).size)
  refine hK.out _ _ hS4025 (fun hH4025 => ?_)
  have hH4025 : Below (w6.heap.size) w6 wn4025 := hH4025
  clear hK K hS4025
  try simp only [Act.put, List.setIfInBounds_toArray, List.set_cons_zero, List.set_cons_succ]
  refine wpAnyH_ready (rs := [23]) (by kernel_rfl) (by simp) ?_
  refine AllReadyH.cons (o := { dst := some 56, op := Op.convert 25 9 (Operand.tmp 55), type := 9, pos := "law.go:59", after := #[{ on := 22, ground := Ground.data }, { on := 19, ground := Ground.guard }], guard := some (19, false) }) rfl (fun K hK => ?_) AllReadyH.nil
  have hcv4026 := conv_own c4025 HO4025.out wn4025 (Below.refl _ _)
  go_simp
  clear hcv4026
  have hS4026 : Below (w6.heap.size) w6 wn4025 := hH4025
  refine hK.out _ _ hS4026 (fun hH4026 => ?_)
  have hH4026 : Below (w6.heap.size) w6 wn4025 := hH4026
  clear hK K hS4026
  try simp only [Act.put, List.setIfInBounds_toArray, List.set_cons_zero, List.set_cons_succ]
  refine wpAnyH_take (i := 26) (oi := { dst := some 59, op := Op.binOp BinOp.neq 9 (Operand.tmp 56) (Operand.tmp 58) 9, type := 4, pos := "law.go:59", after := #[{ on := 23, ground := Ground.data }, { on := 25, ground := Ground.data }, { on := 19, ground := Ground.guard }], guard := some (19, false) }) (v := ?tkv4027) rfl (by kernel_rfl) (by kernel_rfl) (by kernel_rfl) (fun _ _ _ h => h) (Or.inl ⟨by rfl, ?tky4027⟩) hH4026 ?tkr4027
  case tky4027 => (intro w' hSw; clear hSw; go_simp; try with_reducible rfl)
  try simp only [Act.put, List.setIfInBounds_toArray, List.set_cons_zero, List.set_cons_succ]
  refine wpAnyH_take (i := 27) (oi := { dst := some 60, op := Op.pick (Operand.tmp 52) (Operand.const (Value.bool true)) (Operand.tmp 59), type := 4, pos := "law.go:59", after := #[{ on := 19, ground := Ground.data }, { on := 26, ground := Ground.data }], guard := none }) (v := ?tkv4028) rfl (by kernel_rfl) (by kernel_rfl) (by kernel_rfl) (fun _ _ _ h => h) (Or.inl ⟨by rfl, ?tky4028⟩) hH4026 ?tkr4028
  case tky4028 => (intro w' hSw; clear hSw; go_simp; try with_reducible rfl)
  try simp only [Act.put, List.setIfInBounds_toArray, List.set_cons_zero, List.set_cons_succ]
  refine wpAnyH_take (i := 28) (oi := { dst := some 61, op := Op.move (Operand.tmp 60), type := 4, pos := "law.go:59", after := #[{ on := 27, ground := Ground.data }, { on := 22, ground := Ground.chain }], guard := none }) (v := ?tkv4029) rfl (by kernel_rfl) (by kernel_rfl) (by kernel_rfl) (fun _ _ _ h => h) (Or.inl ⟨by rfl, ?tky4029⟩) hH4026 ?tkr4029
  case tky4029 => (intro w' hSw; clear hSw; go_simp; try with_reducible rfl)
  try simp only [Act.put, List.setIfInBounds_toArray, List.set_cons_zero, List.set_cons_succ]
  refine wpAnyH_take (i := 29) (oi := { dst := some 62, op := Op.load 24 (Operand.tmp 4), type := 24, pos := "law.go:59", after := #[{ on := 28, ground := Ground.guard }], guard := some (28, false) }) (v := ?tkv4030) rfl (by kernel_rfl) (by kernel_rfl) (by kernel_rfl) (fun _ _ _ h => h) (Or.inl ⟨by rfl, ?tky4030⟩) hH4026 ?tkr4030
  case tky4030 => (intro w' hSw; have z0 := HFX.out _ hSw; have z1 := HC4.out _ hSw; have z2 := HC5.out _ hSw; clear hSw; go_simp; try with_reducible rfl)
  try simp only [Act.put, List.setIfInBounds_toArray, List.set_cons_zero, List.set_cons_succ]
  refine wpAnyH_take (i := 30) (oi := { dst := some 63, op := Op.move (Operand.tmp 1), type := 25, pos := "law.go:59", after := #[{ on := 28, ground := Ground.guard }], guard := some (28, false) }) (v := ?tkv4031) rfl (by kernel_rfl) (by kernel_rfl) (by kernel_rfl) (fun _ _ _ h => h) (Or.inl ⟨by rfl, ?tky4031⟩) hH4026 ?tkr4031
  case tky4031 => (intro w' hSw; clear hSw; go_simp; try with_reducible rfl)
  try simp only [Act.put, List.setIfInBounds_toArray, List.set_cons_zero, List.set_cons_succ]
  refine wpAnyH_take (i := 32) (oi := { dst := some 65, op := Op.move (Operand.tmp 2), type := 22, pos := "law.go:59", after := #[{ on := 28, ground := Ground.guard }], guard := some (28, false) }) (v := ?tkv4032) rfl (by kernel_rfl) (by kernel_rfl) (by kernel_rfl) (fun _ _ _ h => h) (Or.inl ⟨by rfl, ?tky4032⟩) hH4026 ?tkr4032
  case tky4032 => (intro w' hSw; clear hSw; go_simp; try with_reducible rfl)
  try simp only [Act.put, List.setIfInBounds_toArray, List.set_cons_zero, List.set_cons_succ]
  refine wpAnyH_take (i := 35) (oi := { dst := some 68, op := Op.move (Operand.tmp 11), type := 25, pos := "law.go:59", after := #[{ on := 28, ground := Ground.guard }], guard := some (28, false) }) (v := ?tkv4033) rfl (by kernel_rfl) (by kernel_rfl) (by kernel_rfl) (fun _ _ _ h => h) (Or.inl ⟨by rfl, ?tky4033⟩) hH4026 ?tkr4033
  case tky4033 => (intro w' hSw; clear hSw; go_simp; try with_reducible rfl)
  try simp only [Act.put, List.setIfInBounds_toArray, List.set_cons_zero, List.set_cons_succ]
  refine wpAnyH_take (i := 36) (oi := { dst := some 69, op := Op.convert 25 9 (Operand.tmp 68), type := 9, pos := "law.go:59", after := #[{ on := 35, ground := Ground.data }, { on := 28, ground := Ground.guard }], guard := some (28, false) }) (v := ?tkv4034) rfl (by kernel_rfl) (by kernel_rfl) (by kernel_rfl) (fun _ _ _ h => h) (Or.inl ⟨by rfl, ?tky4034⟩) hH4026 ?tkr4034
  case tky4034 => (intro w' hSw; have z0 := HFX.out _ hSw; have z1 := HC4.out _ hSw; have z2 := HC5.out _ hSw; clear hSw; go_simp; try with_reducible rfl)
  try simp only [Act.put, List.setIfInBounds_toArray, List.set_cons_zero, List.set_cons_succ]
  refine wpAnyH_ready (rs := [31]) (by kernel_rfl) (by simp) ?_
  refine AllReadyH.cons (o := { dst := some 64, op := Op.call { callee := Callee.value (Operand.func 8), args := #[Operand.tmp 62, Operand.tmp 63], argTypes := #[24, 25] }, type := 28, pos := "law.go:59", after := #[{ on := 29, ground := Ground.data }, { on := 30, ground := Ground.data }, { on := 28, ground := Ground.chain }, { on := 28, ground := Ground.guard }], guard := some (28, false) }) rfl (fun K hK => ?_) AllReadyH.nil
  go_simp
  refine (new_yes s kk P Z w6.heap.size c1 A1 img wn4025 HK.out HP.out HZZ.out (HIM.out wn4025 (hH4026)) (hH4026).size (by have := HI.out; omega) HCN.out).mono ?_
  rintro e' wn4035 ⟨g4035, rfl, hg4035, _, hq4035, hb4035'⟩
  have hb4035 := hb4035'.out
  have GE4035 : Hid (w6.heap.size ≤ g4035) := Lib.hid (Nat.le_trans (hH4026).size hg4035)
  have HF4035 := Lib.hid hq4035.out.hf
  clear hq4035 hg4035 hb4035'
  go_simp
  have hS4035 : Below (w6.heap.size) w6 wn4035 := (hH4026).trans (hb4035.mono (hH4026).size)
  refine hK.out _ _ hS4035 (fun hH4035 => ?_)
  have hH4035 : Below (w6.heap.size) w6 wn4035 := hH4035
  clear hK K hS4035
  try simp only [Act.put, List.setIfInBounds_toArray, List.set_cons_zero, List.set_cons_succ]
  refine wpAnyH_ready (rs := [33]) (by kernel_rfl) (by simp) ?_
  refine AllReadyH.cons (o := { dst := some 66, op := Op.call { callee := Callee.value (Operand.func 9), args := #[Operand.tmp 64, Operand.tmp 65], argTypes := #[28, 22] }, type := 25, pos := "law.go:59", after := #[{ on := 31, ground := Ground.data }, { on := 32, ground := Ground.data }, { on := 31, ground := Ground.chain }, { on := 28, ground := Ground.guard }], guard := some (28, false) }) rfl (fun K hK => ?_) AllReadyH.nil
  go_simp
  refine (sym_gen s kk P Z id g4035 _ img _ wn4035 HS.out HID.out HK.out HP.out HZZ.out (grows_but HF4035.out (HDT.out wn4035 (hH4035))) (made_first s kk P Z g4035 img wn4035 HS.out HK.out HP.out HZZ.out HCN.out HF4035.out)).mono ?_
  rintro e' wn4036 ⟨A4036, n4036, c4036, rfl, hn4036, ho4036, _, hr4036⟩
  have HO4036 := Lib.hid ho4036.out
  clear hn4036 ho4036
  go_simp
  have hS4036 : Below (w6.heap.size) w6 wn4036 := (hH4035).trans (hr4036.out.below GE4035.out (hH4035).size)
  refine hK.out _ _ hS4036 (fun hH4036 => ?_)
  have hH4036 : Below (w6.heap.size) w6 wn4036 := hH4036
  clear hK K hS4036
  try simp only [Act.put, List.setIfInBounds_toArray, List.set_cons_zero, List.set_cons_succ]
  refine wpAnyH_ready (rs := [34]) (by kernel_rfl) (by simp) ?_
  refine AllReadyH.cons (o := { dst := some 67, op := Op.convert 25 9 (Operand.tmp 66), type := 9, pos := "law.go:59", after := #[{ on := 33, ground := Ground.data }, { on := 28, ground := Ground.guard }], guard := some (28, false) }) rfl (fun K hK => ?_) AllReadyH.nil
  have hcv4037 := conv_own c4036 HO4036.out wn4036 (Below.refl _ _)
  go_simp
  clear hcv4037
  have hS4037 : Below (w6.heap.size) w6 wn4036 := hH4036
  refine hK.out _ _ hS4037 (fun hH4037 => ?_)
  have hH4037 : Below (w6.heap.size) w6 wn4036 := hH4037
  clear hK K hS4037
  try simp only [Act.put, List.setIfInBounds_toArray, List.set_cons_zero, List.set_cons_succ]
  refine wpAnyH_take (i := 37) (oi := { dst := some 70, op := Op.binOp BinOp.neq 9 (Operand.tmp 67) (Operand.tmp 69) 9, type := 4, pos := "law.go:59", after := #[{ on := 34, ground := Ground.data }, { on := 36, ground := Ground.data }, { on := 28, ground := Ground.guard }], guard := some (28, false) }) (v := ?tkv4038) rfl (by kernel_rfl) (by kernel_rfl) (by kernel_rfl) (fun _ _ _ h => h) (Or.inl ⟨by rfl, ?tky4038⟩) hH4037 ?tkr4038
  case tky4038 => (intro w' hSw; clear hSw; go_simp; try with_reducible rfl)
  try simp only [Act.put, List.setIfInBounds_toArray, List.set_cons_zero, List.set_cons_succ]
  refine wpAnyH_take (i := 38) (oi := { dst := some 71, op := Op.pick (Operand.tmp 61) (Operand.const (Value.bool true)) (Operand.tmp 70), type := 4, pos := "law.go:59", after := #[{ on := 28, ground := Ground.data }, { on := 37, ground := Ground.data }], guard := none }) (v := ?tkv4039) rfl (by kernel_rfl) (by kernel_rfl) (by kernel_rfl) (fun _ _ _ h => h) (Or.inl ⟨by rfl, ?tky4039⟩) hH4037 ?tkr4039
  case tky4039 => (intro w' hSw; clear hSw; go_simp; try with_reducible rfl)
  try simp only [Act.put, List.setIfInBounds_toArray, List.set_cons_zero, List.set_cons_succ]
  refine wpAnyH_done (by kernel_rfl) ?_ _
  refine NoPanic.normal ?_
  obtain ⟨w7, rfl⟩ : ∃ x : World, x = wn4036 := ⟨_, rfl⟩
  have HH7 : Below w6.heap.size w6 w7 := hH4037
  have HB7 : Hid (Below w6.heap.size w6 w7) := Lib.hid HH7
  clear HH7
  obtain ⟨⟨x0, x1, x2, x3⟩⟩ := HFX.out w7 HB7.out
  have HROW := Lib.hid (row_any s id kk P Z w7 HS.out HID.out HK.out HP.out HZZ.out)
  go_wp2_with fail
  refine HROW.out.mono ?_
  rintro e w8 ⟨gv, hv, rfl, _, _, hvec, hb8⟩
  have HB8 := Lib.hid (HB7.out.trans (hb8.out.mono HB7.out.size))
  have HLS := Lib.hid (list_any gv hv (kk + P) _ w8 hvec.out (HDT.out w8 HB8.out))
  clear HROW hvec hb8 x0 x1 x2 x3
  go_wp2_with fail
  refine HLS.out.mono ?_
  rintro e w9 ⟨A9, c9, rfl, hown9, hb9⟩
  have HB9 := Lib.hid (HB8.out.trans (hb9.out.mono HB8.out.size))
  have HL9 := Lib.hid (Row.of_own hown9.out)
  have HMEM : Hid (∀ i ∈ Ls (spX s kk P id), i < kk + P) := Lib.hid fun i hi => Ls_lt hi
  have HC : Hid ((Ls (spX s kk P id)).length ≤ 256) := Lib.hid (L_le _ 256)
  have HSY : Hid (symX s kk P Z img id = sumF ((Ls (spX s kk P id)).map fun i => (allC s kk P Z img).getD i [])) := Lib.hid rfl
  have HCN1 : Hid (1 ≤ (Ls (spX s kk P id)).length) := Lib.hid (spX_count HK.out.1 (by have := HK.out; have := HP.out; omega)).1
  have HTK := Lib.hid (fun k => ls_take (spX s kk P id) k)
  have HSF : Hid (id < kk → symX s kk P Z img id = (allC s kk P Z img).getD id []) := Lib.hid fun h => symX_first h HK.out.1 (by have := HK.out; have := HP.out; omega)
  clear HLS hown9 hb9
  generalize spX s kk P id = X at *
  obtain ⟨ls, hls⟩ : ∃ l, Ls X = l := ⟨_, rfl⟩
  rw [hls] at HL9 HMEM HC HSY HCN1 HTK ⊢
  clear hls
  obtain ⟨m, hmm⟩ : ∃ m, ls.length = m := ⟨_, rfl⟩
  have HM := Lib.hid hmm
  rw [hmm] at HL9 HC HCN1 HTK ⊢
  have hm256 : m ≤ 256 := HC.out
  clear hmm
  go_wp2_with fail
  go_loopw [13, 77] (fun v i wr => ∃ k : Nat, k ≤ m ∧ i = .int .i64 k ∧ Hid (wr.ownsRow w9.heap.size 25 1 v k ((ls.take k).map fun i => (es.getD i brow0).val)) ∧ Hid (Below w9.heap.size w9 wr)) (fun _ i _ => m - (intOf i).toNat)
  case atStart => exact ⟨0, by omega, rfl, Lib.hid (World.ownsRow_nil _ _ _ _), Lib.hid (Below.refl _ _)⟩
  case round =>
    obtain ⟨k, hk, rfl, hown, hbk⟩ := hrel
    have hsz := hbk.out.size
    have HBR := Lib.hid (HB9.out.trans (hbk.out.mono HB9.out.size))
    by_cases hlt : k < m
    · obtain ⟨b, o, rfl, _, hcell⟩ := (HL9.out.below hbk.out).cellAt hlt (u := .int .i64 ((ls.getD k 0 : Nat) : Int)) (by
        have hk2 : k < ls.length := by rw [HM.out]; exact hlt
        simp [nv, hk2, List.getD])
      have hmem : ls.getD k 0 ∈ ls := getD_mem (by rw [HM.out]; exact hlt)
      have hin := HMEM.out _ hmem
      have htk := HTK.out k hlt
      have HTKK := Lib.hid htk
      generalize ls.getD k 0 = i at *
      obtain ⟨b2, o2, e2, r, hr, hcell2, hrow⟩ := (HRS.out.below HBR.out).at_ hin
      injection e2 with e2
      injection e2 with e2 e3
      subst e2 e3
      rw [Nat.zero_add] at hcell2
      have hrd : (es.getD i brow0) = r := by simp [List.getD, hr]
      have HRD := Lib.hid hrd
      have HOW := Lib.hid hown.out
      obtain ⟨Av, cv, rfl, _⟩ := own_slice hown.out
      have hki : (k : Int) < (m : Int) := by omega
      have hii : (i : Int) < ((kk + P : Nat) : Int) := by omega
      have hij : (i : Int) < (kk : Int) + (P : Int) := by omega
      have hil : ¬ ((kk : Int) + (P : Int) ≤ (i : Int)) := by omega
      have hi0 : ¬ ((i : Int) < 0) := by omega
      have hkk64 := HK.out
      have hpp16 := HP.out
      clear hown hmem htk hr hrow hrd
      go_wp2_with (at_builtin; refine wpList_app rfl (.tmp 89) (.tmp 94) 31 rfl w9.heap.size 25 i0 (.slice none 0 0) 24 Tryd.underlying31 hi hz0 hz1 hz2 rfl _ k _ rfl (own_below HOW.out ((Below.refl _ _).alloc (Nat.le_refl _) _)) _ _ 1 1 _ rfl (row_new wr _ _ _) (by intro u hu; simp at hu; subst hu; rfl) (by unfold maxLen; omega) (by omega) (Nat.le_trans hsz ((Below.refl _ _).alloc (Nat.le_refl _) _).size) ?_; intro v6 wz hown6 hg6 hat6)
      have hbW : Below w9.heap.size w9 (wr.alloc (.cells #[.slice r.A r.n r.c] 25)) := hbk.out.alloc hsz _
      have hnext : Hid (wz.ownsRow w9.heap.size 25 1 v6 (k + 1) ((ls.take (k + 1)).map fun i => (es.getD i brow0).val)) := by
        rw [HTKK.out, List.map_append, List.map_singleton, HRD.out]
        exact Lib.hid hown6
      have hbn : Hid (Below w9.heap.size w9 wz) := Lib.hid (below_app hbW hbW.size (own_below HOW.out ((Below.refl _ _).alloc (Nat.le_refl _) _)) (Nat.le_refl _) hg6)
      clear hown6 hg6 hat6 hbW HOW hbk HBR
      go_wp2_with fail
      go_roundw
      case rel => exact ⟨k + 1, by omega, by go_num, hnext, hbn⟩
      case measure => simp [intOf]; omega
    · obtain rfl : m = k := by omega
      clear hlt
      obtain ⟨Av, cv, rfl, hcv, hcv2, _⟩ := own_slice hown.out
      have hfin := hown.out
      rw [List.take_of_length_le (by rw [HM.out]; exact Nat.le_refl _)] at hfin
      obtain ⟨fs, hfs⟩ : ∃ fs : List BRow, fs = ls.map fun i => es.getD i brow0 := ⟨_, rfl⟩
      have hfl : fs.length = m := by rw [hfs, List.length_map]; exact HM.out
      have h2 : Rows2 wr.drew wr.drew.heap.size Av m fs := by
        refine ⟨?_, fun r hr => ?_⟩
        · have := Row.of_own hfin
          rw [hfs, List.map_map]; exact this
        · rw [hfs] at hr
          obtain ⟨i, hi2, rfl⟩ := List.mem_map.1 hr
          obtain ⟨_, _, _, r, hr2, _, hrow⟩ := (HRS.out.below HBR.out).at_ (HMEM.out i hi2)
          have : es.getD i brow0 = r := by simp [List.getD, hr2]
          rw [this]; exact hrow.more HBR.out.size
      have hfm : fs.map (·.l) = ls.map fun i => (allC s kk P Z img).getD i [] := by
        rw [hfs, List.map_map]
        apply List.map_congr_left
        intro i hi2
        rw [← HES.out]
        simp only [Function.comp, List.getD_eq_getElem?_getD, List.getElem?_map]
        cases es[i]? <;> rfl
      cases fs with
      | nil => exact absurd hfl (by have := HCN1.out; simp; omega)
      | cons r0 fs =>
        obtain ⟨m', rfl⟩ : ∃ m', m = m' + 1 := ⟨m - 1, by have := HCN1.out; omega⟩
        have hrn : r0.n ≤ 1000000000 := by
          rw [← (h2.2 r0 (by simp)).blen]
          have h5 : r0.l ∈ ls.map fun i => (allC s kk P Z img).getD i [] := by rw [← hfm]; simp
          obtain ⟨i, hi2, e5⟩ := List.mem_map.1 h5
          rw [← e5, allC_zi (HMEM.out i hi2)]
          have := HZZ.out
          omega
        have HR2 := Lib.hid h2
        have HRN := Lib.hid hrn
        have HCV : Hid (m' + 1 ≤ cv ∧ cv ≤ 9223372036854775807) := Lib.hid ⟨hcv, hcv2⟩
        have HFM : Hid (sumF ((r0 :: fs).map (·.l)) = symX s kk P Z img id) := Lib.hid (by rw [hfm, HSY.out])
        have HJ : Hid (joinF (es.take kk) (img.length : Int) = img) := Lib.hid (by
          have hf : flat (es.take kk) = (pcsL img Z kk).flatMap fun x => x := by
            rw [← allC_take s kk P Z img, ← HES.out, ← List.map_take, List.flatMap_map]; rfl
          have hl : img.length ≤ (flat (es.take kk)).length ∧ img.length ≤ kk * Z := by
            have hc := count_facts _ _ kk HCN.out (by have := HK.out; omega)
            have h1 : img.length ≤ kk * Z := by
              have := hc.2.2.2.2.2.1
              exact_mod_cast this
            refine ⟨?_, h1⟩
            have := congrArg List.length (pcsL_flat h1)
            rw [hf]
            rw [List.length_take] at this
            have h3 : ((pcsL img Z kk).flatMap _root_.id).length = ((pcsL img Z kk).flatMap fun x => x).length := rfl
            omega
          unfold joinF
          rw [if_neg (by have := HI.out; omega), if_neg (by omega), hf, Int.toNat_natCast]
          exact pcsL_flat hl.2)
        have hkz : (kk : Int) ≤ 64 ∧ 1 ≤ (kk : Int) ∧ (P : Int) ≤ 16 := by have := HK.out; have := HP.out; omega
        have hkz1 := hkz.1
        have hkz2 := hkz.2.1
        have hkz3 := hkz.2.2
        have hidb := HID.out
        have hkc1 : (kk : Int) ≤ (c6 : Int) := by have := HC6.out; omega
        have hkc2 : (c6 : Int) ≤ 9223372036854775807 := by have := HC6.out; omega
        have hkc3 : kk ≤ c6 := by have := HC6.out; omega
        have hw32 : IntKind.u32.wrap (kk : Int) = (kk : Int) := by
          have e : IntKind.u32.wrap (kk : Int) = (kk : Int) % 4294967296 := by simp [IntKind.wrap, IntKind.bits, IntKind.signed]
          rw [e]; omega
        clear hfin hfs hfl h2 hfm hrn hown hcv hcv2 hbk hsz hkz HL9 HMEM HC HSY HCN1 HTK HM
        by_cases hlk : id < kk
        · obtain ⟨b2, o2, e2, r, hr, _, _⟩ := HRS.out.at_ (show id < kk + P by omega)
          injection e2 with e2
          injection e2 with e2 e3
          subst e2 e3
          have hrl : r.l = symX s kk P Z img id := by rw [HSF.out hlk, ← HES.out]; simp [List.getD, hr]
          have HLI : Hid (∀ W, Below w6.heap.size w6 W → W.cell? ⟨gA, id, none⟩ = some (.slice r.A r.n r.c) ∧ (convert 25 9 (.slice r.A r.n r.c)).run Tryd.prog W = .ok (.string ⟨(symX s kk P Z img id).toArray⟩) W) := Lib.hid fun W hW => by
            obtain ⟨b3, o3, e3, r3, hr3, hc3, hw3⟩ := (HRS.out.below hW).at_ (show id < kk + P by omega)
            injection e3 with e3
            injection e3 with e3 e4
            subst e3 e4
            rw [Nat.zero_add] at hc3
            obtain rfl : r = r3 := Option.some.inj (hr.symm.trans hr3)
            refine ⟨hc3, ?_⟩
            rw [← hrl]
            exact conv_row r.c hw3 hW.size W (Below.refl _ _)
          have hlk2 : ¬ ((kk : Int) ≤ (id : Int)) := by omega
          have hlk3 : (id : Int) < (kk : Int) + (P : Int) := by omega
          have hlk4 : (id : Int) < ((kk + P : Nat) : Int) := by omega
          have hlk5 : ¬ (kk ≤ id) := by omega
          clear hr hrl HSF
          go_upto_region 16 with fail
          refine wp_region_noPanic ?_
          refine wp_region_held_drew (S := (fun W => Below w6.heap.size w6 W)) (by kernel_rfl) (HBR.out.trans ((Below.refl wr.heap.size wr).drew.mono HBR.out.size)) (fun hH0 => ?_)
          have hH0 : Below w6.heap.size w6 wr.drew := hH0
          generalize wr.drew = wd7000 at *
          refine wpAnyH_take (i := 0) (oi := { dst := some 97, op := Op.move (Operand.tmp 13), type := 31, pos := "law.go:69", after := #[], guard := none }) (v := ?tkv7001) rfl (by kernel_rfl) (by kernel_rfl) (by kernel_rfl) (fun _ _ _ h => h) (Or.inl ⟨by rfl, ?tky7001⟩) hH0 ?tkr7001
          case tky7001 => (intro w' hSw; clear hSw; go_simp; try with_reducible rfl)
          try simp only [Act.put, List.setIfInBounds_toArray, List.set_cons_zero, List.set_cons_succ]
          refine wpAnyH_take (i := 3) (oi := { dst := some 100, op := Op.move (Operand.tmp 11), type := 25, pos := "law.go:69", after := #[], guard := none }) (v := ?tkv7002) rfl (by kernel_rfl) (by kernel_rfl) (by kernel_rfl) (fun _ _ _ h => h) (Or.inl ⟨by rfl, ?tky7002⟩) hH0 ?tkr7002
          case tky7002 => (intro w' hSw; clear hSw; go_simp; try with_reducible rfl)
          try simp only [Act.put, List.setIfInBounds_toArray, List.set_cons_zero, List.set_cons_succ]
          refine wpAnyH_take (i := 4) (oi := { dst := some 101, op := Op.convert 25 9 (Operand.tmp 100), type := 9, pos := "law.go:69", after := #[{ on := 3, ground := Ground.data }], guard := none }) (v := ?tkv7003) rfl (by kernel_rfl) (by kernel_rfl) (by kernel_rfl) (fun _ _ _ h => h) (Or.inl ⟨by rfl, ?tky7003⟩) hH0 ?tkr7003
          case tky7003 => (intro w' hSw; have z0 := HFX.out _ hSw; have z1 := HC5.out _ hSw; have z2 := HCIM.out _ hSw; have z3 := HLI.out _ hSw; clear hSw; go_simp; try with_reducible rfl)
          try simp only [Act.put, List.setIfInBounds_toArray, List.set_cons_zero, List.set_cons_succ]
          refine wpAnyH_ready (rs := [1]) (by kernel_rfl) (by simp) ?_
          refine AllReadyH.cons (o := { dst := some 98, op := Op.call { callee := Callee.value (Operand.func 13), args := #[Operand.tmp 97], argTypes := #[31] }, type := 25, pos := "law.go:69", after := #[{ on := 0, ground := Ground.data }], guard := none }) rfl (fun K hK => ?_) AllReadyH.nil
          go_simp
          refine (sum_some wd7000.heap.size m' cv Av r0 fs wd7000 HR2.out HCV.out.1 HCV.out.2 (Nat.le_refl _) HRN.out).mono ?_
          rintro e' wn7004 ⟨A7004, n7004, c7004, rfl, hn7004, ho7004, hb7004⟩
          rw [HFM.out] at ho7004
          have HO7004 := Lib.hid ho7004
          clear hn7004 ho7004
          go_simp
          have hS7004 : Below w6.heap.size w6 wn7004 := (hH0).trans (hb7004.mono (hH0).size)
          refine hK.out _ _ hS7004 (fun hH7004 => ?_)
          have hH7004 : Below w6.heap.size w6 wn7004 := hH7004
          clear hK K hS7004
          try simp only [Act.put, List.setIfInBounds_toArray, List.set_cons_zero, List.set_cons_succ]
          refine wpAnyH_ready (rs := [2]) (by kernel_rfl) (by simp) ?_
          refine AllReadyH.cons (o := { dst := some 99, op := Op.convert 25 9 (Operand.tmp 98), type := 9, pos := "law.go:69", after := #[{ on := 1, ground := Ground.data }], guard := none }) rfl (fun K hK => ?_) AllReadyH.nil
          have hcv7005 := conv_own c7004 HO7004.out wn7004 (Below.refl _ _)
          go_simp
          clear hcv7005
          have hS7005 : Below w6.heap.size w6 wn7004 := hH7004
          refine hK.out _ _ hS7005 (fun hH7005 => ?_)
          have hH7005 : Below w6.heap.size w6 wn7004 := hH7005
          clear hK K hS7005
          try simp only [Act.put, List.setIfInBounds_toArray, List.set_cons_zero, List.set_cons_succ]
          refine wpAnyH_take (i := 5) (oi := { dst := some 102, op := Op.binOp BinOp.eql 9 (Operand.tmp 99) (Operand.tmp 101) 9, type := 4, pos := "law.go:69", after := #[{ on := 2, ground := Ground.data }, { on := 4, ground := Ground.data }], guard := none }) (v := ?tkv7006) rfl (by kernel_rfl) (by kernel_rfl) (by kernel_rfl) (fun _ _ _ h => h) (Or.inl ⟨by rfl, ?tky7006⟩) hH7005 ?tkr7006
          case tky7006 => (intro w' hSw; clear hSw; go_simp; try with_reducible rfl)
          try simp only [Act.put, List.setIfInBounds_toArray, List.set_cons_zero, List.set_cons_succ]
          refine wpAnyH_take (i := 6) (oi := { dst := some 103, op := Op.move (Operand.tmp 102), type := 4, pos := "law.go:69", after := #[{ on := 5, ground := Ground.data }, { on := 1, ground := Ground.chain }], guard := none }) (v := ?tkv7007) rfl (by kernel_rfl) (by kernel_rfl) (by kernel_rfl) (fun _ _ _ h => h) (Or.inl ⟨by rfl, ?tky7007⟩) hH7005 ?tkr7007
          case tky7007 => (intro w' hSw; clear hSw; go_simp; try with_reducible rfl)
          try simp only [Act.put, List.setIfInBounds_toArray, List.set_cons_zero, List.set_cons_succ]
          refine wpAnyH_take (i := 7) (oi := { dst := some 104, op := Op.move (Operand.tmp 2), type := 22, pos := "law.go:69", after := #[{ on := 6, ground := Ground.guard }], guard := some (6, true) }) (v := ?tkv7008) rfl (by kernel_rfl) (by kernel_rfl) (by kernel_rfl) (fun _ _ _ h => h) (Or.inl ⟨by rfl, ?tky7008⟩) hH7005 ?tkr7008
          case tky7008 => (intro w' hSw; clear hSw; go_simp; try with_reducible rfl)
          try simp only [Act.put, List.setIfInBounds_toArray, List.set_cons_zero, List.set_cons_succ]
          refine wpAnyH_take (i := 8) (oi := { dst := some 105, op := Op.fieldAddr 24 (Operand.tmp 4) 1, type := 0, pos := "law.go:69", after := #[{ on := 6, ground := Ground.guard }], guard := some (6, true) }) (v := ?tkv7009) rfl (by kernel_rfl) (by kernel_rfl) (by kernel_rfl) (fun _ _ _ h => h) (Or.inl ⟨by rfl, ?tky7009⟩) hH7005 ?tkr7009
          case tky7009 => (intro w' hSw; clear hSw; go_simp; try with_reducible rfl)
          try simp only [Act.put, List.setIfInBounds_toArray, List.set_cons_zero, List.set_cons_succ]
          refine wpAnyH_take (i := 9) (oi := { dst := some 106, op := Op.load 3 (Operand.tmp 105), type := 3, pos := "law.go:69", after := #[{ on := 8, ground := Ground.data }, { on := 6, ground := Ground.guard }], guard := some (6, true) }) (v := ?tkv7010) rfl (by kernel_rfl) (by kernel_rfl) (by kernel_rfl) (fun _ _ _ h => h) (Or.inl ⟨by rfl, ?tky7010⟩) hH7005 ?tkr7010
          case tky7010 => (intro w' hSw; have z0 := HFX.out _ hSw; have z1 := HC5.out _ hSw; have z2 := HCIM.out _ hSw; have z3 := HLI.out _ hSw; clear hSw; go_simp; try with_reducible rfl)
          try simp only [Act.put, List.setIfInBounds_toArray, List.set_cons_zero, List.set_cons_succ]
          refine wpAnyH_take (i := 10) (oi := { dst := some 107, op := Op.convert 3 22 (Operand.tmp 106), type := 22, pos := "law.go:69", after := #[{ on := 9, ground := Ground.data }, { on := 6, ground := Ground.guard }], guard := some (6, true) }) (v := ?tkv7011) rfl (by kernel_rfl) (by kernel_rfl) (by kernel_rfl) (fun _ _ _ h => h) (Or.inl ⟨by rfl, ?tky7011⟩) hH7005 ?tkr7011
          case tky7011 => (intro w' hSw; have z0 := HFX.out _ hSw; have z1 := HC5.out _ hSw; have z2 := HCIM.out _ hSw; have z3 := HLI.out _ hSw; clear hSw; go_simp; try with_reducible rfl)
          try simp only [Act.put, List.setIfInBounds_toArray, List.set_cons_zero, List.set_cons_succ]
          refine wpAnyH_take (i := 11) (oi := { dst := some 108, op := Op.binOp BinOp.geq 22 (Operand.tmp 104) (Operand.tmp 107) 22, type := 4, pos := "law.go:69", after := #[{ on := 7, ground := Ground.data }, { on := 10, ground := Ground.data }, { on := 6, ground := Ground.guard }], guard := some (6, true) }) (v := ?tkv7012) rfl (by kernel_rfl) (by kernel_rfl) (by kernel_rfl) (fun _ _ _ h => h) (Or.inl ⟨by rfl, ?tky7012⟩) hH7005 ?tkr7012
          case tky7012 => (intro w' hSw; clear hSw; go_simp; try with_reducible rfl)
          try simp only [Act.put, List.setIfInBounds_toArray, List.set_cons_zero, List.set_cons_succ]
          refine wpAnyH_take (i := 12) (oi := { dst := some 109, op := Op.move (Operand.tmp 108), type := 4, pos := "law.go:69", after := #[{ on := 11, ground := Ground.data }, { on := 6, ground := Ground.chain }, { on := 6, ground := Ground.guard }], guard := some (6, true) }) (v := ?tkv7013) rfl (by kernel_rfl) (by kernel_rfl) (by kernel_rfl) (fun _ _ _ h => h) (Or.inl ⟨by rfl, ?tky7013⟩) hH7005 ?tkr7013
          case tky7013 => (intro w' hSw; clear hSw; go_simp; try with_reducible rfl)
          try simp only [Act.put, List.setIfInBounds_toArray, List.set_cons_zero, List.set_cons_succ]
          refine wpAnyH_take (i := 13) (oi := { dst := some 110, op := Op.move (Operand.tmp 11), type := 25, pos := "law.go:69", after := #[{ on := 12, ground := Ground.guard }], guard := some (12, false) }) (v := ?tkv7014) rfl (by kernel_rfl) (by kernel_rfl) (by kernel_rfl) (fun _ _ _ h => h) (Or.inl ⟨by rfl, ?tky7014⟩) hH7005 ?tkr7014
          case tky7014 => (intro w' hSw; clear hSw; go_simp; try with_reducible rfl)
          try simp only [Act.put, List.setIfInBounds_toArray, List.set_cons_zero, List.set_cons_succ]
          refine wpAnyH_take (i := 14) (oi := { dst := some 111, op := Op.convert 25 9 (Operand.tmp 110), type := 9, pos := "law.go:69", after := #[{ on := 13, ground := Ground.data }, { on := 12, ground := Ground.guard }], guard := some (12, false) }) (v := ?tkv7015) rfl (by kernel_rfl) (by kernel_rfl) (by kernel_rfl) (fun _ _ _ h => h) (Or.inl ⟨by rfl, ?tky7015⟩) hH7005 ?tkr7015
          case tky7015 => (intro w' hSw; have z0 := HFX.out _ hSw; have z1 := HC5.out _ hSw; have z2 := HCIM.out _ hSw; have z3 := HLI.out _ hSw; clear hSw; go_simp; try with_reducible rfl)
          try simp only [Act.put, List.setIfInBounds_toArray, List.set_cons_zero, List.set_cons_succ]
          refine wpAnyH_take (i := 15) (oi := { dst := some 112, op := Op.move (Operand.tmp 12), type := 31, pos := "law.go:69", after := #[{ on := 12, ground := Ground.guard }], guard := some (12, false) }) (v := ?tkv7016) rfl (by kernel_rfl) (by kernel_rfl) (by kernel_rfl) (fun _ _ _ h => h) (Or.inl ⟨by rfl, ?tky7016⟩) hH7005 ?tkr7016
          case tky7016 => (intro w' hSw; clear hSw; go_simp; try with_reducible rfl)
          try simp only [Act.put, List.setIfInBounds_toArray, List.set_cons_zero, List.set_cons_succ]
          refine wpAnyH_take (i := 16) (oi := { dst := some 113, op := Op.move (Operand.tmp 2), type := 22, pos := "law.go:69", after := #[{ on := 12, ground := Ground.guard }], guard := some (12, false) }) (v := ?tkv7017) rfl (by kernel_rfl) (by kernel_rfl) (by kernel_rfl) (fun _ _ _ h => h) (Or.inl ⟨by rfl, ?tky7017⟩) hH7005 ?tkr7017
          case tky7017 => (intro w' hSw; clear hSw; go_simp; try with_reducible rfl)
          try simp only [Act.put, List.setIfInBounds_toArray, List.set_cons_zero, List.set_cons_succ]
          refine wpAnyH_take (i := 17) (oi := { dst := some 114, op := Op.indexAddr 31 (Operand.tmp 112) (Operand.tmp 113), type := 0, pos := "law.go:69", after := #[{ on := 15, ground := Ground.data }, { on := 16, ground := Ground.data }, { on := 12, ground := Ground.guard }], guard := some (12, false) }) (v := ?tkv7018) rfl (by kernel_rfl) (by kernel_rfl) (by kernel_rfl) (fun _ _ _ h => h) (Or.inl ⟨by rfl, ?tky7018⟩) hH7005 ?tkr7018
          case tky7018 => (intro w' hSw; clear hSw; go_simp; try with_reducible rfl)
          try simp only [Act.put, List.setIfInBounds_toArray, List.set_cons_zero, List.set_cons_succ]
          refine wpAnyH_take (i := 18) (oi := { dst := some 115, op := Op.load 25 (Operand.tmp 114), type := 25, pos := "law.go:69", after := #[{ on := 17, ground := Ground.data }, { on := 12, ground := Ground.guard }], guard := some (12, false) }) (v := ?tkv7019) rfl (by kernel_rfl) (by kernel_rfl) (by kernel_rfl) (fun _ _ _ h => h) (Or.inl ⟨by rfl, ?tky7019⟩) hH7005 ?tkr7019
          case tky7019 => (intro w' hSw; have z0 := HFX.out _ hSw; have z1 := HC5.out _ hSw; have z2 := HCIM.out _ hSw; have z3 := HLI.out _ hSw; clear hSw; go_simp; try with_reducible rfl)
          try simp only [Act.put, List.setIfInBounds_toArray, List.set_cons_zero, List.set_cons_succ]
          refine wpAnyH_take (i := 19) (oi := { dst := some 116, op := Op.convert 25 9 (Operand.tmp 115), type := 9, pos := "law.go:69", after := #[{ on := 18, ground := Ground.data }, { on := 12, ground := Ground.guard }], guard := some (12, false) }) (v := ?tkv7020) rfl (by kernel_rfl) (by kernel_rfl) (by kernel_rfl) (fun _ _ _ h => h) (Or.inl ⟨by rfl, ?tky7020⟩) hH7005 ?tkr7020
          case tky7020 => (intro w' hSw; have z0 := HFX.out _ hSw; have z1 := HC5.out _ hSw; have z2 := HCIM.out _ hSw; have z3 := HLI.out _ hSw; clear hSw; go_simp; try with_reducible rfl)
          try simp only [Act.put, List.setIfInBounds_toArray, List.set_cons_zero, List.set_cons_succ]
          refine wpAnyH_take (i := 20) (oi := { dst := some 117, op := Op.binOp BinOp.eql 9 (Operand.tmp 111) (Operand.tmp 116) 9, type := 4, pos := "law.go:69", after := #[{ on := 14, ground := Ground.data }, { on := 19, ground := Ground.data }, { on := 12, ground := Ground.guard }], guard := some (12, false) }) (v := ?tkv7021) rfl (by kernel_rfl) (by kernel_rfl) (by kernel_rfl) (fun _ _ _ h => h) (Or.inl ⟨by rfl, ?tky7021⟩) hH7005 ?tkr7021
          case tky7021 => (intro w' hSw; clear hSw; go_simp; try with_reducible rfl)
          try simp only [Act.put, List.setIfInBounds_toArray, List.set_cons_zero, List.set_cons_succ]
          refine wpAnyH_take (i := 21) (oi := { dst := some 118, op := Op.pick (Operand.tmp 109) (Operand.const (Value.bool true)) (Operand.tmp 117), type := 4, pos := "law.go:69", after := #[{ on := 12, ground := Ground.data }, { on := 20, ground := Ground.data }, { on := 6, ground := Ground.guard }], guard := some (6, true) }) (v := ?tkv7022) rfl (by kernel_rfl) (by kernel_rfl) (by kernel_rfl) (fun _ _ _ h => h) (Or.inl ⟨by rfl, ?tky7022⟩) hH7005 ?tkr7022
          case tky7022 => (intro w' hSw; clear hSw; go_simp; try with_reducible rfl)
          try simp only [Act.put, List.setIfInBounds_toArray, List.set_cons_zero, List.set_cons_succ]
          refine wpAnyH_take (i := 22) (oi := { dst := some 119, op := Op.pick (Operand.tmp 103) (Operand.tmp 118) (Operand.const (Value.bool false)), type := 4, pos := "law.go:69", after := #[{ on := 6, ground := Ground.data }, { on := 21, ground := Ground.data }], guard := none }) (v := ?tkv7023) rfl (by kernel_rfl) (by kernel_rfl) (by kernel_rfl) (fun _ _ _ h => h) (Or.inl ⟨by rfl, ?tky7023⟩) hH7005 ?tkr7023
          case tky7023 => (intro w' hSw; clear hSw; go_simp; try with_reducible rfl)
          try simp only [Act.put, List.setIfInBounds_toArray, List.set_cons_zero, List.set_cons_succ]
          refine wpAnyH_take (i := 23) (oi := { dst := some 120, op := Op.move (Operand.tmp 119), type := 4, pos := "law.go:69", after := #[{ on := 22, ground := Ground.data }, { on := 12, ground := Ground.chain }], guard := none }) (v := ?tkv7024) rfl (by kernel_rfl) (by kernel_rfl) (by kernel_rfl) (fun _ _ _ h => h) (Or.inl ⟨by rfl, ?tky7024⟩) hH7005 ?tkr7024
          case tky7024 => (intro w' hSw; clear hSw; go_simp; try with_reducible rfl)
          try simp only [Act.put, List.setIfInBounds_toArray, List.set_cons_zero, List.set_cons_succ]
          refine wpAnyH_take (i := 24) (oi := { dst := some 121, op := Op.move (Operand.tmp 12), type := 31, pos := "law.go:69", after := #[{ on := 23, ground := Ground.guard }], guard := some (23, true) }) (v := ?tkv7025) rfl (by kernel_rfl) (by kernel_rfl) (by kernel_rfl) (fun _ _ _ h => h) (Or.inl ⟨by rfl, ?tky7025⟩) hH7005 ?tkr7025
          case tky7025 => (intro w' hSw; clear hSw; go_simp; try with_reducible rfl)
          try simp only [Act.put, List.setIfInBounds_toArray, List.set_cons_zero, List.set_cons_succ]
          refine wpAnyH_take (i := 25) (oi := { dst := some 122, op := Op.fieldAddr 24 (Operand.tmp 4) 1, type := 0, pos := "law.go:69", after := #[{ on := 23, ground := Ground.guard }], guard := some (23, true) }) (v := ?tkv7026) rfl (by kernel_rfl) (by kernel_rfl) (by kernel_rfl) (fun _ _ _ h => h) (Or.inl ⟨by rfl, ?tky7026⟩) hH7005 ?tkr7026
          case tky7026 => (intro w' hSw; clear hSw; go_simp; try with_reducible rfl)
          try simp only [Act.put, List.setIfInBounds_toArray, List.set_cons_zero, List.set_cons_succ]
          refine wpAnyH_take (i := 26) (oi := { dst := some 123, op := Op.load 3 (Operand.tmp 122), type := 3, pos := "law.go:69", after := #[{ on := 25, ground := Ground.data }, { on := 23, ground := Ground.guard }], guard := some (23, true) }) (v := ?tkv7027) rfl (by kernel_rfl) (by kernel_rfl) (by kernel_rfl) (fun _ _ _ h => h) (Or.inl ⟨by rfl, ?tky7027⟩) hH7005 ?tkr7027
          case tky7027 => (intro w' hSw; have z0 := HFX.out _ hSw; have z1 := HC5.out _ hSw; have z2 := HCIM.out _ hSw; have z3 := HLI.out _ hSw; clear hSw; go_simp; try with_reducible rfl)
          try simp only [Act.put, List.setIfInBounds_toArray, List.set_cons_zero, List.set_cons_succ]
          refine wpAnyH_take (i := 27) (oi := { dst := some 124, op := Op.slice 31 (Operand.tmp 121) none (some (Operand.tmp 123)) none, type := 31, pos := "law.go:69", after := #[{ on := 24, ground := Ground.data }, { on := 26, ground := Ground.data }, { on := 23, ground := Ground.guard }], guard := some (23, true) }) (v := ?tkv7028) rfl (by kernel_rfl) (by kernel_rfl) (by kernel_rfl) (fun _ _ _ h => h) (Or.inl ⟨by rfl, ?tky7028⟩) hH7005 ?tkr7028
          case tky7028 => (intro w' hSw; have z0 := HFX.out _ hSw; have z1 := HC5.out _ hSw; have z2 := HCIM.out _ hSw; have z3 := HLI.out _ hSw; clear hSw; go_simp; try with_reducible rfl)
          try simp only [Act.put, List.setIfInBounds_toArray, List.set_cons_zero, List.set_cons_succ]
          refine wpAnyH_take (i := 28) (oi := { dst := some 125, op := Op.move (Operand.tmp 1), type := 25, pos := "law.go:69", after := #[{ on := 23, ground := Ground.guard }], guard := some (23, true) }) (v := ?tkv7029) rfl (by kernel_rfl) (by kernel_rfl) (by kernel_rfl) (fun _ _ _ h => h) (Or.inl ⟨by rfl, ?tky7029⟩) hH7005 ?tkr7029
          case tky7029 => (intro w' hSw; clear hSw; go_simp; try with_reducible rfl)
          try simp only [Act.put, List.setIfInBounds_toArray, List.set_cons_zero, List.set_cons_succ]
          refine wpAnyH_take (i := 29) (oi := { dst := some 126, op := Op.call { callee := Callee.builtin Builtin.len, args := #[Operand.tmp 125], argTypes := #[25] }, type := 3, pos := "law.go:69", after := #[{ on := 28, ground := Ground.data }, { on := 23, ground := Ground.guard }], guard := some (23, true) }) (v := ?tkv7030) rfl (by kernel_rfl) (by kernel_rfl) (by kernel_rfl) (fun _ _ _ h => h) (Or.inl ⟨by rfl, ?tky7030⟩) hH7005 ?tkr7030
          case tky7030 => (intro w' hSw; clear hSw; go_simp; try with_reducible rfl)
          try simp only [Act.put, List.setIfInBounds_toArray, List.set_cons_zero, List.set_cons_succ]
          refine wpAnyH_take (i := 32) (oi := { dst := some 129, op := Op.move (Operand.tmp 1), type := 25, pos := "law.go:69", after := #[{ on := 23, ground := Ground.guard }], guard := some (23, true) }) (v := ?tkv7031) rfl (by kernel_rfl) (by kernel_rfl) (by kernel_rfl) (fun _ _ _ h => h) (Or.inl ⟨by rfl, ?tky7031⟩) hH7005 ?tkr7031
          case tky7031 => (intro w' hSw; clear hSw; go_simp; try with_reducible rfl)
          try simp only [Act.put, List.setIfInBounds_toArray, List.set_cons_zero, List.set_cons_succ]
          refine wpAnyH_take (i := 33) (oi := { dst := some 130, op := Op.convert 25 9 (Operand.tmp 129), type := 9, pos := "law.go:69", after := #[{ on := 32, ground := Ground.data }, { on := 23, ground := Ground.guard }], guard := some (23, true) }) (v := ?tkv7032) rfl (by kernel_rfl) (by kernel_rfl) (by kernel_rfl) (fun _ _ _ h => h) (Or.inl ⟨by rfl, ?tky7032⟩) hH7005 ?tkr7032
          case tky7032 => (intro w' hSw; have z0 := HFX.out _ hSw; have z1 := HC5.out _ hSw; have z2 := HCIM.out _ hSw; have z3 := HLI.out _ hSw; clear hSw; go_simp; try with_reducible rfl)
          try simp only [Act.put, List.setIfInBounds_toArray, List.set_cons_zero, List.set_cons_succ]
          refine wpAnyH_ready (rs := [30]) (by kernel_rfl) (by simp) ?_
          refine AllReadyH.cons (o := { dst := some 127, op := Op.call { callee := Callee.value (Operand.func 14), args := #[Operand.tmp 124, Operand.tmp 126], argTypes := #[31, 3] }, type := 25, pos := "law.go:69", after := #[{ on := 27, ground := Ground.data }, { on := 29, ground := Ground.data }, { on := 23, ground := Ground.chain }, { on := 23, ground := Ground.guard }], guard := some (23, true) }) rfl (fun K hK => ?_) AllReadyH.nil
          go_simp
          refine (join_at gA w6.heap.size kk c6 (es.take kk) wn7004 (rows2_head (HRS.out.below (hH7005)) (Nat.le_add_right _ _)) (by have := HK.out; omega) (hH7005).size HBG.out (img.length : Int)).mono ?_
          rintro e' wn7033 ⟨A7033, n7033, c7033, rfl, hn7033, ho7033, hb7033⟩
          rw [HJ.out] at ho7033
          have HO7033 := Lib.hid ho7033
          clear hn7033 ho7033
          go_simp
          have hS7033 : Below w6.heap.size w6 wn7033 := (hH7005).trans (hb7033.mono (hH7005).size)
          refine hK.out _ _ hS7033 (fun hH7033 => ?_)
          have hH7033 : Below w6.heap.size w6 wn7033 := hH7033
          clear hK K hS7033
          try simp only [Act.put, List.setIfInBounds_toArray, List.set_cons_zero, List.set_cons_succ]
          refine wpAnyH_ready (rs := [31]) (by kernel_rfl) (by simp) ?_
          refine AllReadyH.cons (o := { dst := some 128, op := Op.convert 25 9 (Operand.tmp 127), type := 9, pos := "law.go:69", after := #[{ on := 30, ground := Ground.data }, { on := 23, ground := Ground.guard }], guard := some (23, true) }) rfl (fun K hK => ?_) AllReadyH.nil
          have hcv7034 := conv_own c7033 HO7033.out wn7033 (Below.refl _ _)
          go_simp
          clear hcv7034
          have hS7034 : Below w6.heap.size w6 wn7033 := hH7033
          refine hK.out _ _ hS7034 (fun hH7034 => ?_)
          have hH7034 : Below w6.heap.size w6 wn7033 := hH7034
          clear hK K hS7034
          try simp only [Act.put, List.setIfInBounds_toArray, List.set_cons_zero, List.set_cons_succ]
          refine wpAnyH_take (i := 34) (oi := { dst := some 131, op := Op.binOp BinOp.eql 9 (Operand.tmp 128) (Operand.tmp 130) 9, type := 4, pos := "law.go:69", after := #[{ on := 31, ground := Ground.data }, { on := 33, ground := Ground.data }, { on := 23, ground := Ground.guard }], guard := some (23, true) }) (v := ?tkv7035) rfl (by kernel_rfl) (by kernel_rfl) (by kernel_rfl) (fun _ _ _ h => h) (Or.inl ⟨by rfl, ?tky7035⟩) hH7034 ?tkr7035
          case tky7035 => (intro w' hSw; clear hSw; go_simp; try with_reducible rfl)
          try simp only [Act.put, List.setIfInBounds_toArray, List.set_cons_zero, List.set_cons_succ]
          refine wpAnyH_take (i := 35) (oi := { dst := some 132, op := Op.pick (Operand.tmp 120) (Operand.tmp 131) (Operand.const (Value.bool false)), type := 4, pos := "law.go:69", after := #[{ on := 23, ground := Ground.data }, { on := 34, ground := Ground.data }], guard := none }) (v := ?tkv7036) rfl (by kernel_rfl) (by kernel_rfl) (by kernel_rfl) (fun _ _ _ h => h) (Or.inl ⟨by rfl, ?tky7036⟩) hH7034 ?tkr7036
          case tky7036 => (intro w' hSw; clear hSw; go_simp; try with_reducible rfl)
          try simp only [Act.put, List.setIfInBounds_toArray, List.set_cons_zero, List.set_cons_succ]
          refine wpAnyH_take (i := 36) (oi := { dst := some 133, op := Op.move (Operand.tmp 132), type := 4, pos := "law.go:69", after := #[{ on := 35, ground := Ground.data }, { on := 30, ground := Ground.chain }], guard := none }) (v := ?tkv7037) rfl (by kernel_rfl) (by kernel_rfl) (by kernel_rfl) (fun _ _ _ h => h) (Or.inl ⟨by rfl, ?tky7037⟩) hH7034 ?tkr7037
          case tky7037 => (intro w' hSw; clear hSw; go_simp; try with_reducible rfl)
          try simp only [Act.put, List.setIfInBounds_toArray, List.set_cons_zero, List.set_cons_succ]
          refine wpAnyH_ready (rs := [37]) (by kernel_rfl) (by simp) ?_
          refine AllReadyH.cons (o := { dst := some 134, op := Op.call { callee := Callee.value (Operand.func 15), args := #[], argTypes := #[] }, type := 4, pos := "law.go:69", after := #[{ on := 36, ground := Ground.chain }, { on := 36, ground := Ground.guard }], guard := some (36, true) }) rfl (fun K hK => ?_) AllReadyH.nil
          go_simp
          refine (awake11_any wn7033 (HDT.out wn7033 (hH7034))).mono ?_
          rintro e' wn7038 ⟨rfl, hb7038⟩
          have hb7038 := hb7038.out
          go_simp
          have hS7038 : Below w6.heap.size w6 wn7038 := (hH7034).trans (hb7038.mono (hH7034).size)
          refine hK.out _ _ hS7038 (fun hH7038 => ?_)
          have hH7038 : Below w6.heap.size w6 wn7038 := hH7038
          clear hK K hS7038
          try simp only [Act.put, List.setIfInBounds_toArray, List.set_cons_zero, List.set_cons_succ]
          refine wpAnyH_take (i := 38) (oi := { dst := some 135, op := Op.pick (Operand.tmp 133) (Operand.tmp 134) (Operand.const (Value.bool false)), type := 4, pos := "law.go:69", after := #[{ on := 36, ground := Ground.data }, { on := 37, ground := Ground.data }], guard := none }) (v := ?tkv7039) rfl (by kernel_rfl) (by kernel_rfl) (by kernel_rfl) (fun _ _ _ h => h) (Or.inl ⟨by rfl, ?tky7039⟩) hH7038 ?tkr7039
          case tky7039 => (intro w' hSw; clear hSw; go_simp; try with_reducible rfl)
          try simp only [Act.put, List.setIfInBounds_toArray, List.set_cons_zero, List.set_cons_succ]
          refine wpAnyH_take (i := 39) (oi := { dst := some 8, op := Op.assign (Operand.tmp 135), type := 4, pos := "law.go:69", after := #[{ on := 38, ground := Ground.data }, { on := 37, ground := Ground.chain }, { on := 0, ground := Ground.phase }, { on := 1, ground := Ground.phase }, { on := 2, ground := Ground.phase }, { on := 3, ground := Ground.phase }, { on := 4, ground := Ground.phase }, { on := 5, ground := Ground.phase }, { on := 6, ground := Ground.phase }, { on := 7, ground := Ground.phase }, { on := 8, ground := Ground.phase }, { on := 9, ground := Ground.phase }, { on := 10, ground := Ground.phase }, { on := 11, ground := Ground.phase }, { on := 12, ground := Ground.phase }, { on := 13, ground := Ground.phase }, { on := 14, ground := Ground.phase }, { on := 15, ground := Ground.phase }, { on := 16, ground := Ground.phase }, { on := 17, ground := Ground.phase }, { on := 18, ground := Ground.phase }, { on := 19, ground := Ground.phase }, { on := 20, ground := Ground.phase }, { on := 21, ground := Ground.phase }, { on := 22, ground := Ground.phase }, { on := 23, ground := Ground.phase }, { on := 24, ground := Ground.phase }, { on := 25, ground := Ground.phase }, { on := 26, ground := Ground.phase }, { on := 27, ground := Ground.phase }, { on := 28, ground := Ground.phase }, { on := 29, ground := Ground.phase }, { on := 30, ground := Ground.phase }, { on := 31, ground := Ground.phase }, { on := 32, ground := Ground.phase }, { on := 33, ground := Ground.phase }, { on := 34, ground := Ground.phase }, { on := 35, ground := Ground.phase }, { on := 36, ground := Ground.phase }, { on := 37, ground := Ground.phase }, { on := 38, ground := Ground.phase }], guard := none }) (v := ?tkv7040) rfl (by kernel_rfl) (by kernel_rfl) (by kernel_rfl) (fun _ _ _ h => h) (Or.inl ⟨by rfl, ?tky7040⟩) hH7038 ?tkr7040
          case tky7040 => (intro w' hSw; clear hSw; go_simp; try with_reducible rfl)
          try simp only [Act.put, List.setIfInBounds_toArray, List.set_cons_zero, List.set_cons_succ]
          refine wpAnyH_done (by kernel_rfl) ?_ _
          refine NoPanic.normal ?_
          have HB9 := Lib.hid (HB6.out.trans ((hH7038).mono HB6.out.size))
          go_wp2_with fail
          go_ret
          exact ⟨rfl, HB9.out⟩
        · have hlk2 : (kk : Int) ≤ (id : Int) := by omega
          have hlk5 : kk ≤ id := by omega
          clear HSF
          go_upto_region 16 with fail
          refine wp_region_noPanic ?_
          refine wp_region_held_drew (S := (fun W => Below w6.heap.size w6 W)) (by kernel_rfl) (HBR.out.trans ((Below.refl wr.heap.size wr).drew.mono HBR.out.size)) (fun hH0 => ?_)
          have hH0 : Below w6.heap.size w6 wr.drew := hH0
          generalize wr.drew = wd8000 at *
          refine wpAnyH_take (i := 0) (oi := { dst := some 97, op := Op.move (Operand.tmp 13), type := 31, pos := "law.go:69", after := #[], guard := none }) (v := ?tkv8001) rfl (by kernel_rfl) (by kernel_rfl) (by kernel_rfl) (fun _ _ _ h => h) (Or.inl ⟨by rfl, ?tky8001⟩) hH0 ?tkr8001
          case tky8001 => (intro w' hSw; clear hSw; go_simp; try with_reducible rfl)
          try simp only [Act.put, List.setIfInBounds_toArray, List.set_cons_zero, List.set_cons_succ]
          refine wpAnyH_take (i := 3) (oi := { dst := some 100, op := Op.move (Operand.tmp 11), type := 25, pos := "law.go:69", after := #[], guard := none }) (v := ?tkv8002) rfl (by kernel_rfl) (by kernel_rfl) (by kernel_rfl) (fun _ _ _ h => h) (Or.inl ⟨by rfl, ?tky8002⟩) hH0 ?tkr8002
          case tky8002 => (intro w' hSw; clear hSw; go_simp; try with_reducible rfl)
          try simp only [Act.put, List.setIfInBounds_toArray, List.set_cons_zero, List.set_cons_succ]
          refine wpAnyH_take (i := 4) (oi := { dst := some 101, op := Op.convert 25 9 (Operand.tmp 100), type := 9, pos := "law.go:69", after := #[{ on := 3, ground := Ground.data }], guard := none }) (v := ?tkv8003) rfl (by kernel_rfl) (by kernel_rfl) (by kernel_rfl) (fun _ _ _ h => h) (Or.inl ⟨by rfl, ?tky8003⟩) hH0 ?tkr8003
          case tky8003 => (intro w' hSw; have z0 := HFX.out _ hSw; have z1 := HC5.out _ hSw; have z2 := HCIM.out _ hSw; clear hSw; go_simp; try with_reducible rfl)
          try simp only [Act.put, List.setIfInBounds_toArray, List.set_cons_zero, List.set_cons_succ]
          refine wpAnyH_ready (rs := [1]) (by kernel_rfl) (by simp) ?_
          refine AllReadyH.cons (o := { dst := some 98, op := Op.call { callee := Callee.value (Operand.func 13), args := #[Operand.tmp 97], argTypes := #[31] }, type := 25, pos := "law.go:69", after := #[{ on := 0, ground := Ground.data }], guard := none }) rfl (fun K hK => ?_) AllReadyH.nil
          go_simp
          refine (sum_some wd8000.heap.size m' cv Av r0 fs wd8000 HR2.out HCV.out.1 HCV.out.2 (Nat.le_refl _) HRN.out).mono ?_
          rintro e' wn8004 ⟨A8004, n8004, c8004, rfl, hn8004, ho8004, hb8004⟩
          rw [HFM.out] at ho8004
          have HO8004 := Lib.hid ho8004
          clear hn8004 ho8004
          go_simp
          have hS8004 : Below w6.heap.size w6 wn8004 := (hH0).trans (hb8004.mono (hH0).size)
          refine hK.out _ _ hS8004 (fun hH8004 => ?_)
          have hH8004 : Below w6.heap.size w6 wn8004 := hH8004
          clear hK K hS8004
          try simp only [Act.put, List.setIfInBounds_toArray, List.set_cons_zero, List.set_cons_succ]
          refine wpAnyH_ready (rs := [2]) (by kernel_rfl) (by simp) ?_
          refine AllReadyH.cons (o := { dst := some 99, op := Op.convert 25 9 (Operand.tmp 98), type := 9, pos := "law.go:69", after := #[{ on := 1, ground := Ground.data }], guard := none }) rfl (fun K hK => ?_) AllReadyH.nil
          have hcv8005 := conv_own c8004 HO8004.out wn8004 (Below.refl _ _)
          go_simp
          clear hcv8005
          have hS8005 : Below w6.heap.size w6 wn8004 := hH8004
          refine hK.out _ _ hS8005 (fun hH8005 => ?_)
          have hH8005 : Below w6.heap.size w6 wn8004 := hH8005
          clear hK K hS8005
          try simp only [Act.put, List.setIfInBounds_toArray, List.set_cons_zero, List.set_cons_succ]
          refine wpAnyH_take (i := 5) (oi := { dst := some 102, op := Op.binOp BinOp.eql 9 (Operand.tmp 99) (Operand.tmp 101) 9, type := 4, pos := "law.go:69", after := #[{ on := 2, ground := Ground.data }, { on := 4, ground := Ground.data }], guard := none }) (v := ?tkv8006) rfl (by kernel_rfl) (by kernel_rfl) (by kernel_rfl) (fun _ _ _ h => h) (Or.inl ⟨by rfl, ?tky8006⟩) hH8005 ?tkr8006
          case tky8006 => (intro w' hSw; clear hSw; go_simp; try with_reducible rfl)
          try simp only [Act.put, List.setIfInBounds_toArray, List.set_cons_zero, List.set_cons_succ]
          refine wpAnyH_take (i := 6) (oi := { dst := some 103, op := Op.move (Operand.tmp 102), type := 4, pos := "law.go:69", after := #[{ on := 5, ground := Ground.data }, { on := 1, ground := Ground.chain }], guard := none }) (v := ?tkv8007) rfl (by kernel_rfl) (by kernel_rfl) (by kernel_rfl) (fun _ _ _ h => h) (Or.inl ⟨by rfl, ?tky8007⟩) hH8005 ?tkr8007
          case tky8007 => (intro w' hSw; clear hSw; go_simp; try with_reducible rfl)
          try simp only [Act.put, List.setIfInBounds_toArray, List.set_cons_zero, List.set_cons_succ]
          refine wpAnyH_take (i := 7) (oi := { dst := some 104, op := Op.move (Operand.tmp 2), type := 22, pos := "law.go:69", after := #[{ on := 6, ground := Ground.guard }], guard := some (6, true) }) (v := ?tkv8008) rfl (by kernel_rfl) (by kernel_rfl) (by kernel_rfl) (fun _ _ _ h => h) (Or.inl ⟨by rfl, ?tky8008⟩) hH8005 ?tkr8008
          case tky8008 => (intro w' hSw; clear hSw; go_simp; try with_reducible rfl)
          try simp only [Act.put, List.setIfInBounds_toArray, List.set_cons_zero, List.set_cons_succ]
          refine wpAnyH_take (i := 8) (oi := { dst := some 105, op := Op.fieldAddr 24 (Operand.tmp 4) 1, type := 0, pos := "law.go:69", after := #[{ on := 6, ground := Ground.guard }], guard := some (6, true) }) (v := ?tkv8009) rfl (by kernel_rfl) (by kernel_rfl) (by kernel_rfl) (fun _ _ _ h => h) (Or.inl ⟨by rfl, ?tky8009⟩) hH8005 ?tkr8009
          case tky8009 => (intro w' hSw; clear hSw; go_simp; try with_reducible rfl)
          try simp only [Act.put, List.setIfInBounds_toArray, List.set_cons_zero, List.set_cons_succ]
          refine wpAnyH_take (i := 9) (oi := { dst := some 106, op := Op.load 3 (Operand.tmp 105), type := 3, pos := "law.go:69", after := #[{ on := 8, ground := Ground.data }, { on := 6, ground := Ground.guard }], guard := some (6, true) }) (v := ?tkv8010) rfl (by kernel_rfl) (by kernel_rfl) (by kernel_rfl) (fun _ _ _ h => h) (Or.inl ⟨by rfl, ?tky8010⟩) hH8005 ?tkr8010
          case tky8010 => (intro w' hSw; have z0 := HFX.out _ hSw; have z1 := HC5.out _ hSw; have z2 := HCIM.out _ hSw; clear hSw; go_simp; try with_reducible rfl)
          try simp only [Act.put, List.setIfInBounds_toArray, List.set_cons_zero, List.set_cons_succ]
          refine wpAnyH_take (i := 10) (oi := { dst := some 107, op := Op.convert 3 22 (Operand.tmp 106), type := 22, pos := "law.go:69", after := #[{ on := 9, ground := Ground.data }, { on := 6, ground := Ground.guard }], guard := some (6, true) }) (v := ?tkv8011) rfl (by kernel_rfl) (by kernel_rfl) (by kernel_rfl) (fun _ _ _ h => h) (Or.inl ⟨by rfl, ?tky8011⟩) hH8005 ?tkr8011
          case tky8011 => (intro w' hSw; have z0 := HFX.out _ hSw; have z1 := HC5.out _ hSw; have z2 := HCIM.out _ hSw; clear hSw; go_simp; try with_reducible rfl)
          try simp only [Act.put, List.setIfInBounds_toArray, List.set_cons_zero, List.set_cons_succ]
          refine wpAnyH_take (i := 11) (oi := { dst := some 108, op := Op.binOp BinOp.geq 22 (Operand.tmp 104) (Operand.tmp 107) 22, type := 4, pos := "law.go:69", after := #[{ on := 7, ground := Ground.data }, { on := 10, ground := Ground.data }, { on := 6, ground := Ground.guard }], guard := some (6, true) }) (v := ?tkv8012) rfl (by kernel_rfl) (by kernel_rfl) (by kernel_rfl) (fun _ _ _ h => h) (Or.inl ⟨by rfl, ?tky8012⟩) hH8005 ?tkr8012
          case tky8012 => (intro w' hSw; clear hSw; go_simp; try with_reducible rfl)
          try simp only [Act.put, List.setIfInBounds_toArray, List.set_cons_zero, List.set_cons_succ]
          refine wpAnyH_take (i := 12) (oi := { dst := some 109, op := Op.move (Operand.tmp 108), type := 4, pos := "law.go:69", after := #[{ on := 11, ground := Ground.data }, { on := 6, ground := Ground.chain }, { on := 6, ground := Ground.guard }], guard := some (6, true) }) (v := ?tkv8013) rfl (by kernel_rfl) (by kernel_rfl) (by kernel_rfl) (fun _ _ _ h => h) (Or.inl ⟨by rfl, ?tky8013⟩) hH8005 ?tkr8013
          case tky8013 => (intro w' hSw; clear hSw; go_simp; try with_reducible rfl)
          try simp only [Act.put, List.setIfInBounds_toArray, List.set_cons_zero, List.set_cons_succ]
          refine wpAnyH_take (i := 13) (oi := { dst := some 110, op := Op.move (Operand.tmp 11), type := 25, pos := "law.go:69", after := #[{ on := 12, ground := Ground.guard }], guard := some (12, false) }) (v := undef) rfl (by kernel_rfl) (by kernel_rfl) (by kernel_rfl) (fun _ _ _ h => h) (Or.inr ⟨by rfl, rfl⟩) hH8005 ?tkr8014
          try simp only [Act.put, List.setIfInBounds_toArray, List.set_cons_zero, List.set_cons_succ]
          refine wpAnyH_take (i := 14) (oi := { dst := some 111, op := Op.convert 25 9 (Operand.tmp 110), type := 9, pos := "law.go:69", after := #[{ on := 13, ground := Ground.data }, { on := 12, ground := Ground.guard }], guard := some (12, false) }) (v := undef) rfl (by kernel_rfl) (by kernel_rfl) (by kernel_rfl) (fun _ _ _ h => h) (Or.inr ⟨by rfl, rfl⟩) hH8005 ?tkr8015
          try simp only [Act.put, List.setIfInBounds_toArray, List.set_cons_zero, List.set_cons_succ]
          refine wpAnyH_take (i := 15) (oi := { dst := some 112, op := Op.move (Operand.tmp 12), type := 31, pos := "law.go:69", after := #[{ on := 12, ground := Ground.guard }], guard := some (12, false) }) (v := undef) rfl (by kernel_rfl) (by kernel_rfl) (by kernel_rfl) (fun _ _ _ h => h) (Or.inr ⟨by rfl, rfl⟩) hH8005 ?tkr8016
          try simp only [Act.put, List.setIfInBounds_toArray, List.set_cons_zero, List.set_cons_succ]
          refine wpAnyH_take (i := 16) (oi := { dst := some 113, op := Op.move (Operand.tmp 2), type := 22, pos := "law.go:69", after := #[{ on := 12, ground := Ground.guard }], guard := some (12, false) }) (v := undef) rfl (by kernel_rfl) (by kernel_rfl) (by kernel_rfl) (fun _ _ _ h => h) (Or.inr ⟨by rfl, rfl⟩) hH8005 ?tkr8017
          try simp only [Act.put, List.setIfInBounds_toArray, List.set_cons_zero, List.set_cons_succ]
          refine wpAnyH_take (i := 17) (oi := { dst := some 114, op := Op.indexAddr 31 (Operand.tmp 112) (Operand.tmp 113), type := 0, pos := "law.go:69", after := #[{ on := 15, ground := Ground.data }, { on := 16, ground := Ground.data }, { on := 12, ground := Ground.guard }], guard := some (12, false) }) (v := undef) rfl (by kernel_rfl) (by kernel_rfl) (by kernel_rfl) (fun _ _ _ h => h) (Or.inr ⟨by rfl, rfl⟩) hH8005 ?tkr8018
          try simp only [Act.put, List.setIfInBounds_toArray, List.set_cons_zero, List.set_cons_succ]
          refine wpAnyH_take (i := 18) (oi := { dst := some 115, op := Op.load 25 (Operand.tmp 114), type := 25, pos := "law.go:69", after := #[{ on := 17, ground := Ground.data }, { on := 12, ground := Ground.guard }], guard := some (12, false) }) (v := undef) rfl (by kernel_rfl) (by kernel_rfl) (by kernel_rfl) (fun _ _ _ h => h) (Or.inr ⟨by rfl, rfl⟩) hH8005 ?tkr8019
          try simp only [Act.put, List.setIfInBounds_toArray, List.set_cons_zero, List.set_cons_succ]
          refine wpAnyH_take (i := 19) (oi := { dst := some 116, op := Op.convert 25 9 (Operand.tmp 115), type := 9, pos := "law.go:69", after := #[{ on := 18, ground := Ground.data }, { on := 12, ground := Ground.guard }], guard := some (12, false) }) (v := undef) rfl (by kernel_rfl) (by kernel_rfl) (by kernel_rfl) (fun _ _ _ h => h) (Or.inr ⟨by rfl, rfl⟩) hH8005 ?tkr8020
          try simp only [Act.put, List.setIfInBounds_toArray, List.set_cons_zero, List.set_cons_succ]
          refine wpAnyH_take (i := 20) (oi := { dst := some 117, op := Op.binOp BinOp.eql 9 (Operand.tmp 111) (Operand.tmp 116) 9, type := 4, pos := "law.go:69", after := #[{ on := 14, ground := Ground.data }, { on := 19, ground := Ground.data }, { on := 12, ground := Ground.guard }], guard := some (12, false) }) (v := undef) rfl (by kernel_rfl) (by kernel_rfl) (by kernel_rfl) (fun _ _ _ h => h) (Or.inr ⟨by rfl, rfl⟩) hH8005 ?tkr8021
          try simp only [Act.put, List.setIfInBounds_toArray, List.set_cons_zero, List.set_cons_succ]
          refine wpAnyH_take (i := 21) (oi := { dst := some 118, op := Op.pick (Operand.tmp 109) (Operand.const (Value.bool true)) (Operand.tmp 117), type := 4, pos := "law.go:69", after := #[{ on := 12, ground := Ground.data }, { on := 20, ground := Ground.data }, { on := 6, ground := Ground.guard }], guard := some (6, true) }) (v := ?tkv8022) rfl (by kernel_rfl) (by kernel_rfl) (by kernel_rfl) (fun _ _ _ h => h) (Or.inl ⟨by rfl, ?tky8022⟩) hH8005 ?tkr8022
          case tky8022 => (intro w' hSw; clear hSw; go_simp; try with_reducible rfl)
          try simp only [Act.put, List.setIfInBounds_toArray, List.set_cons_zero, List.set_cons_succ]
          refine wpAnyH_take (i := 22) (oi := { dst := some 119, op := Op.pick (Operand.tmp 103) (Operand.tmp 118) (Operand.const (Value.bool false)), type := 4, pos := "law.go:69", after := #[{ on := 6, ground := Ground.data }, { on := 21, ground := Ground.data }], guard := none }) (v := ?tkv8023) rfl (by kernel_rfl) (by kernel_rfl) (by kernel_rfl) (fun _ _ _ h => h) (Or.inl ⟨by rfl, ?tky8023⟩) hH8005 ?tkr8023
          case tky8023 => (intro w' hSw; clear hSw; go_simp; try with_reducible rfl)
          try simp only [Act.put, List.setIfInBounds_toArray, List.set_cons_zero, List.set_cons_succ]
          refine wpAnyH_take (i := 23) (oi := { dst := some 120, op := Op.move (Operand.tmp 119), type := 4, pos := "law.go:69", after := #[{ on := 22, ground := Ground.data }, { on := 12, ground := Ground.chain }], guard := none }) (v := ?tkv8024) rfl (by kernel_rfl) (by kernel_rfl) (by kernel_rfl) (fun _ _ _ h => h) (Or.inl ⟨by rfl, ?tky8024⟩) hH8005 ?tkr8024
          case tky8024 => (intro w' hSw; clear hSw; go_simp; try with_reducible rfl)
          try simp only [Act.put, List.setIfInBounds_toArray, List.set_cons_zero, List.set_cons_succ]
          refine wpAnyH_take (i := 24) (oi := { dst := some 121, op := Op.move (Operand.tmp 12), type := 31, pos := "law.go:69", after := #[{ on := 23, ground := Ground.guard }], guard := some (23, true) }) (v := ?tkv8025) rfl (by kernel_rfl) (by kernel_rfl) (by kernel_rfl) (fun _ _ _ h => h) (Or.inl ⟨by rfl, ?tky8025⟩) hH8005 ?tkr8025
          case tky8025 => (intro w' hSw; clear hSw; go_simp; try with_reducible rfl)
          try simp only [Act.put, List.setIfInBounds_toArray, List.set_cons_zero, List.set_cons_succ]
          refine wpAnyH_take (i := 25) (oi := { dst := some 122, op := Op.fieldAddr 24 (Operand.tmp 4) 1, type := 0, pos := "law.go:69", after := #[{ on := 23, ground := Ground.guard }], guard := some (23, true) }) (v := ?tkv8026) rfl (by kernel_rfl) (by kernel_rfl) (by kernel_rfl) (fun _ _ _ h => h) (Or.inl ⟨by rfl, ?tky8026⟩) hH8005 ?tkr8026
          case tky8026 => (intro w' hSw; clear hSw; go_simp; try with_reducible rfl)
          try simp only [Act.put, List.setIfInBounds_toArray, List.set_cons_zero, List.set_cons_succ]
          refine wpAnyH_take (i := 26) (oi := { dst := some 123, op := Op.load 3 (Operand.tmp 122), type := 3, pos := "law.go:69", after := #[{ on := 25, ground := Ground.data }, { on := 23, ground := Ground.guard }], guard := some (23, true) }) (v := ?tkv8027) rfl (by kernel_rfl) (by kernel_rfl) (by kernel_rfl) (fun _ _ _ h => h) (Or.inl ⟨by rfl, ?tky8027⟩) hH8005 ?tkr8027
          case tky8027 => (intro w' hSw; have z0 := HFX.out _ hSw; have z1 := HC5.out _ hSw; have z2 := HCIM.out _ hSw; clear hSw; go_simp; try with_reducible rfl)
          try simp only [Act.put, List.setIfInBounds_toArray, List.set_cons_zero, List.set_cons_succ]
          refine wpAnyH_take (i := 27) (oi := { dst := some 124, op := Op.slice 31 (Operand.tmp 121) none (some (Operand.tmp 123)) none, type := 31, pos := "law.go:69", after := #[{ on := 24, ground := Ground.data }, { on := 26, ground := Ground.data }, { on := 23, ground := Ground.guard }], guard := some (23, true) }) (v := ?tkv8028) rfl (by kernel_rfl) (by kernel_rfl) (by kernel_rfl) (fun _ _ _ h => h) (Or.inl ⟨by rfl, ?tky8028⟩) hH8005 ?tkr8028
          case tky8028 => (intro w' hSw; have z0 := HFX.out _ hSw; have z1 := HC5.out _ hSw; have z2 := HCIM.out _ hSw; clear hSw; go_simp; try with_reducible rfl)
          try simp only [Act.put, List.setIfInBounds_toArray, List.set_cons_zero, List.set_cons_succ]
          refine wpAnyH_take (i := 28) (oi := { dst := some 125, op := Op.move (Operand.tmp 1), type := 25, pos := "law.go:69", after := #[{ on := 23, ground := Ground.guard }], guard := some (23, true) }) (v := ?tkv8029) rfl (by kernel_rfl) (by kernel_rfl) (by kernel_rfl) (fun _ _ _ h => h) (Or.inl ⟨by rfl, ?tky8029⟩) hH8005 ?tkr8029
          case tky8029 => (intro w' hSw; clear hSw; go_simp; try with_reducible rfl)
          try simp only [Act.put, List.setIfInBounds_toArray, List.set_cons_zero, List.set_cons_succ]
          refine wpAnyH_take (i := 29) (oi := { dst := some 126, op := Op.call { callee := Callee.builtin Builtin.len, args := #[Operand.tmp 125], argTypes := #[25] }, type := 3, pos := "law.go:69", after := #[{ on := 28, ground := Ground.data }, { on := 23, ground := Ground.guard }], guard := some (23, true) }) (v := ?tkv8030) rfl (by kernel_rfl) (by kernel_rfl) (by kernel_rfl) (fun _ _ _ h => h) (Or.inl ⟨by rfl, ?tky8030⟩) hH8005 ?tkr8030
          case tky8030 => (intro w' hSw; clear hSw; go_simp; try with_reducible rfl)
          try simp only [Act.put, List.setIfInBounds_toArray, List.set_cons_zero, List.set_cons_succ]
          refine wpAnyH_take (i := 32) (oi := { dst := some 129, op := Op.move (Operand.tmp 1), type := 25, pos := "law.go:69", after := #[{ on := 23, ground := Ground.guard }], guard := some (23, true) }) (v := ?tkv8031) rfl (by kernel_rfl) (by kernel_rfl) (by kernel_rfl) (fun _ _ _ h => h) (Or.inl ⟨by rfl, ?tky8031⟩) hH8005 ?tkr8031
          case tky8031 => (intro w' hSw; clear hSw; go_simp; try with_reducible rfl)
          try simp only [Act.put, List.setIfInBounds_toArray, List.set_cons_zero, List.set_cons_succ]
          refine wpAnyH_take (i := 33) (oi := { dst := some 130, op := Op.convert 25 9 (Operand.tmp 129), type := 9, pos := "law.go:69", after := #[{ on := 32, ground := Ground.data }, { on := 23, ground := Ground.guard }], guard := some (23, true) }) (v := ?tkv8032) rfl (by kernel_rfl) (by kernel_rfl) (by kernel_rfl) (fun _ _ _ h => h) (Or.inl ⟨by rfl, ?tky8032⟩) hH8005 ?tkr8032
          case tky8032 => (intro w' hSw; have z0 := HFX.out _ hSw; have z1 := HC5.out _ hSw; have z2 := HCIM.out _ hSw; clear hSw; go_simp; try with_reducible rfl)
          try simp only [Act.put, List.setIfInBounds_toArray, List.set_cons_zero, List.set_cons_succ]
          refine wpAnyH_ready (rs := [30]) (by kernel_rfl) (by simp) ?_
          refine AllReadyH.cons (o := { dst := some 127, op := Op.call { callee := Callee.value (Operand.func 14), args := #[Operand.tmp 124, Operand.tmp 126], argTypes := #[31, 3] }, type := 25, pos := "law.go:69", after := #[{ on := 27, ground := Ground.data }, { on := 29, ground := Ground.data }, { on := 23, ground := Ground.chain }, { on := 23, ground := Ground.guard }], guard := some (23, true) }) rfl (fun K hK => ?_) AllReadyH.nil
          go_simp
          refine (join_at gA w6.heap.size kk c6 (es.take kk) wn8004 (rows2_head (HRS.out.below (hH8005)) (Nat.le_add_right _ _)) (by have := HK.out; omega) (hH8005).size HBG.out (img.length : Int)).mono ?_
          rintro e' wn8033 ⟨A8033, n8033, c8033, rfl, hn8033, ho8033, hb8033⟩
          rw [HJ.out] at ho8033
          have HO8033 := Lib.hid ho8033
          clear hn8033 ho8033
          go_simp
          have hS8033 : Below w6.heap.size w6 wn8033 := (hH8005).trans (hb8033.mono (hH8005).size)
          refine hK.out _ _ hS8033 (fun hH8033 => ?_)
          have hH8033 : Below w6.heap.size w6 wn8033 := hH8033
          clear hK K hS8033
          try simp only [Act.put, List.setIfInBounds_toArray, List.set_cons_zero, List.set_cons_succ]
          refine wpAnyH_ready (rs := [31]) (by kernel_rfl) (by simp) ?_
          refine AllReadyH.cons (o := { dst := some 128, op := Op.convert 25 9 (Operand.tmp 127), type := 9, pos := "law.go:69", after := #[{ on := 30, ground := Ground.data }, { on := 23, ground := Ground.guard }], guard := some (23, true) }) rfl (fun K hK => ?_) AllReadyH.nil
          have hcv8034 := conv_own c8033 HO8033.out wn8033 (Below.refl _ _)
          go_simp
          clear hcv8034
          have hS8034 : Below w6.heap.size w6 wn8033 := hH8033
          refine hK.out _ _ hS8034 (fun hH8034 => ?_)
          have hH8034 : Below w6.heap.size w6 wn8033 := hH8034
          clear hK K hS8034
          try simp only [Act.put, List.setIfInBounds_toArray, List.set_cons_zero, List.set_cons_succ]
          refine wpAnyH_take (i := 34) (oi := { dst := some 131, op := Op.binOp BinOp.eql 9 (Operand.tmp 128) (Operand.tmp 130) 9, type := 4, pos := "law.go:69", after := #[{ on := 31, ground := Ground.data }, { on := 33, ground := Ground.data }, { on := 23, ground := Ground.guard }], guard := some (23, true) }) (v := ?tkv8035) rfl (by kernel_rfl) (by kernel_rfl) (by kernel_rfl) (fun _ _ _ h => h) (Or.inl ⟨by rfl, ?tky8035⟩) hH8034 ?tkr8035
          case tky8035 => (intro w' hSw; clear hSw; go_simp; try with_reducible rfl)
          try simp only [Act.put, List.setIfInBounds_toArray, List.set_cons_zero, List.set_cons_succ]
          refine wpAnyH_take (i := 35) (oi := { dst := some 132, op := Op.pick (Operand.tmp 120) (Operand.tmp 131) (Operand.const (Value.bool false)), type := 4, pos := "law.go:69", after := #[{ on := 23, ground := Ground.data }, { on := 34, ground := Ground.data }], guard := none }) (v := ?tkv8036) rfl (by kernel_rfl) (by kernel_rfl) (by kernel_rfl) (fun _ _ _ h => h) (Or.inl ⟨by rfl, ?tky8036⟩) hH8034 ?tkr8036
          case tky8036 => (intro w' hSw; clear hSw; go_simp; try with_reducible rfl)
          try simp only [Act.put, List.setIfInBounds_toArray, List.set_cons_zero, List.set_cons_succ]
          refine wpAnyH_take (i := 36) (oi := { dst := some 133, op := Op.move (Operand.tmp 132), type := 4, pos := "law.go:69", after := #[{ on := 35, ground := Ground.data }, { on := 30, ground := Ground.chain }], guard := none }) (v := ?tkv8037) rfl (by kernel_rfl) (by kernel_rfl) (by kernel_rfl) (fun _ _ _ h => h) (Or.inl ⟨by rfl, ?tky8037⟩) hH8034 ?tkr8037
          case tky8037 => (intro w' hSw; clear hSw; go_simp; try with_reducible rfl)
          try simp only [Act.put, List.setIfInBounds_toArray, List.set_cons_zero, List.set_cons_succ]
          refine wpAnyH_ready (rs := [37]) (by kernel_rfl) (by simp) ?_
          refine AllReadyH.cons (o := { dst := some 134, op := Op.call { callee := Callee.value (Operand.func 15), args := #[], argTypes := #[] }, type := 4, pos := "law.go:69", after := #[{ on := 36, ground := Ground.chain }, { on := 36, ground := Ground.guard }], guard := some (36, true) }) rfl (fun K hK => ?_) AllReadyH.nil
          go_simp
          refine (awake11_any wn8033 (HDT.out wn8033 (hH8034))).mono ?_
          rintro e' wn8038 ⟨rfl, hb8038⟩
          have hb8038 := hb8038.out
          go_simp
          have hS8038 : Below w6.heap.size w6 wn8038 := (hH8034).trans (hb8038.mono (hH8034).size)
          refine hK.out _ _ hS8038 (fun hH8038 => ?_)
          have hH8038 : Below w6.heap.size w6 wn8038 := hH8038
          clear hK K hS8038
          try simp only [Act.put, List.setIfInBounds_toArray, List.set_cons_zero, List.set_cons_succ]
          refine wpAnyH_take (i := 38) (oi := { dst := some 135, op := Op.pick (Operand.tmp 133) (Operand.tmp 134) (Operand.const (Value.bool false)), type := 4, pos := "law.go:69", after := #[{ on := 36, ground := Ground.data }, { on := 37, ground := Ground.data }], guard := none }) (v := ?tkv8039) rfl (by kernel_rfl) (by kernel_rfl) (by kernel_rfl) (fun _ _ _ h => h) (Or.inl ⟨by rfl, ?tky8039⟩) hH8038 ?tkr8039
          case tky8039 => (intro w' hSw; clear hSw; go_simp; try with_reducible rfl)
          try simp only [Act.put, List.setIfInBounds_toArray, List.set_cons_zero, List.set_cons_succ]
          refine wpAnyH_take (i := 39) (oi := { dst := some 8, op := Op.assign (Operand.tmp 135), type := 4, pos := "law.go:69", after := #[{ on := 38, ground := Ground.data }, { on := 37, ground := Ground.chain }, { on := 0, ground := Ground.phase }, { on := 1, ground := Ground.phase }, { on := 2, ground := Ground.phase }, { on := 3, ground := Ground.phase }, { on := 4, ground := Ground.phase }, { on := 5, ground := Ground.phase }, { on := 6, ground := Ground.phase }, { on := 7, ground := Ground.phase }, { on := 8, ground := Ground.phase }, { on := 9, ground := Ground.phase }, { on := 10, ground := Ground.phase }, { on := 11, ground := Ground.phase }, { on := 12, ground := Ground.phase }, { on := 13, ground := Ground.phase }, { on := 14, ground := Ground.phase }, { on := 15, ground := Ground.phase }, { on := 16, ground := Ground.phase }, { on := 17, ground := Ground.phase }, { on := 18, ground := Ground.phase }, { on := 19, ground := Ground.phase }, { on := 20, ground := Ground.phase }, { on := 21, ground := Ground.phase }, { on := 22, ground := Ground.phase }, { on := 23, ground := Ground.phase }, { on := 24, ground := Ground.phase }, { on := 25, ground := Ground.phase }, { on := 26, ground := Ground.phase }, { on := 27, ground := Ground.phase }, { on := 28, ground := Ground.phase }, { on := 29, ground := Ground.phase }, { on := 30, ground := Ground.phase }, { on := 31, ground := Ground.phase }, { on := 32, ground := Ground.phase }, { on := 33, ground := Ground.phase }, { on := 34, ground := Ground.phase }, { on := 35, ground := Ground.phase }, { on := 36, ground := Ground.phase }, { on := 37, ground := Ground.phase }, { on := 38, ground := Ground.phase }], guard := none }) (v := ?tkv8040) rfl (by kernel_rfl) (by kernel_rfl) (by kernel_rfl) (fun _ _ _ h => h) (Or.inl ⟨by rfl, ?tky8040⟩) hH8038 ?tkr8040
          case tky8040 => (intro w' hSw; clear hSw; go_simp; try with_reducible rfl)
          try simp only [Act.put, List.setIfInBounds_toArray, List.set_cons_zero, List.set_cons_succ]
          refine wpAnyH_done (by kernel_rfl) ?_ _
          refine NoPanic.normal ?_
          have HB9 := Lib.hid (HB6.out.trans ((hH8038).mono HB6.out.size))
          go_wp2_with fail
          go_ret
          exact ⟨rfl, HB9.out⟩
end Go.Proofs.YtlpmammagebkfaaDoor.Cd
namespace Go.Proofs.YtlpmammagebkfaaDoor
open Go.RowKit Go.ChangeShapes Go.WideShapes Go.ChangeAt Vc
set_option maxRecDepth 100000 in
theorem codeSums_lifted (os : Os) (started : os.Started) (H : Type) (enc : TypeId × Value → H) :
    ReturnsInHanded {} Tryd.checked os 3 .any (fun w args => (Rows.codeSumsSpec.pre enc Tryd.prog Tryd.f3 [] false w args ∧ laidMetH Tryd.prog LB w) ∧ sizedMet enc Tryd.prog Tryd.f3 (OpenSpec.ofChange Rows.codeSumsSpec) false w args) (Rows.codeSumsSpec.post enc Tryd.prog Tryd.f3 false true false false) := by
  refine law_lift_laid (C := Tryd.checked) (tb := 4) (X := fun w _ => laidMetH Tryd.prog LB w) (fun _ _ _ hh h => h.of_heap hh) Tryd.own started (by kernel_rfl) Tryd.func3
    (ChangeSpec.witness_shaped (enc := enc) (C := Tryd.checked) (os := os) (X := fun w _ => laidMetH Tryd.prog LB w) false (World.doorLaid Tryd.prog 400 os) #[.agg #[.int .u32 0, .int .i64 0, .int .i64 0, .int .i64 0], .slice none 0 0, .int .u32 0, .int .u32 0] 8 rfl (World.shaped_of_RefB (by kernel_rfl) (by kernel_rfl)) (by kernel_rfl) (by kernel_rfl) (by kernel_rfl) (door_metB os _)) Tryd.laidOut (by kernel_rfl) rfl rfl Tryd.underlying4 ?_ ?_
  · intro ds hds
    match ds, hds with
    | [_, _, _, _], _ => rfl
  intro W base args ds p hval0 hA0 _ _ hsz0 hX0
  have hval : ∀ (j : Nat) t v, Tryd.f3.params[j]? = some t → args[j]? = some v → Value.okWide Tryd.prog W .any base t v := hval0
  have hA : DataW.TrodAll enc Tryd.prog W 0 (fun _ => true) true Tryd.f3.params.toList args.toList ds p := hA0
  rw [Tryd.params3] at hA hval
  obtain ⟨v0, vs0, d0, ds0, p0, q0, hargs0, hds0, hps0, h0, r0⟩ := trodAll_cons hA
  obtain ⟨v1, vs1, d1, ds1, p1, q1, hargs1, hds1, hps1, h1, r1⟩ := trodAll_cons r0
  obtain ⟨v2, vs2, d2, ds2, p2, q2, hargs2, hds2, hps2, h2, r2⟩ := trodAll_cons r1
  obtain ⟨v3, vs3, d3, ds3, p3, q3, hargs3, hds3, hps3, h3, r3⟩ := trodAll_cons r2
  obtain ⟨e1, _, _⟩ := trodAll_nil r3
  obtain rfl : args = #[v0, v1, v2, v3] := by cases args; simp_all
  obtain ⟨s0, K0, L0, Z0, rfl, hps0, hpK0, hpL0, hpZ0⟩ := open_par Tryd.underlying24 ⟨rfl, rfl, rfl, rfl⟩ Tryd.underlying22 Tryd.underlying3 Tryd.underlying3 Tryd.underlying3 ⟨by kernel_rfl, by kernel_rfl, by kernel_rfl, by kernel_rfl⟩ (by kernel_rfl) (hval 0 24 v0 rfl rfl) h0
  obtain ⟨A1, n1, cap1, l1, rfl, hrow1, hnc1, hcm1⟩ := open_bytes Tryd.underlying25 Tryd.underlying5 Tryd.cells5 (hval 1 25 v1 rfl rfl) h1
  obtain ⟨x2, rfl, hx2⟩ := open_u32 Tryd.underlying22 (hval 2 22 v2 rfl rfl) h2
  obtain ⟨x3, rfl, hx3⟩ := open_u32 Tryd.underlying22 (hval 3 22 v3 rfl rfl) h3
  exact Cd.cdsum_walk s0 n1 cap1 x2 x3 K0 L0 Z0 A1 l1 W (dtab_of_laid hX0) hps0 hx2 hx3 hrow1 ⟨hnc1, hcm1⟩

theorem codeSums_holds : Rows.CodeSumsSaid :=
  OpenClaim.holds_of_wide 3 Tryd.f3 rfl rfl rfl rfl rfl rfl rfl ⟨rfl, rfl, rfl, rfl, rfl⟩ rfl rfl rfl rfl rfl (by kernel_rfl) Tryd.func3 (by kernel_rfl)
    (of_decide_eq_true (by kernel_rfl)) (by unfold Func.isWrapper; rw [if_neg (of_decide_eq_false (by kernel_rfl))]; exact ⟨rfl, rfl⟩)
    (fun os started H enc _ => codeSums_lifted os started H enc)

theorem codeSums_card : Rows.CodeSumsCardSaid :=
  Claim7.holds_tied_plain_at .later [] [.data] true _ false
    codeSums_holds (fun _ h => by cases h) (by kernel_rfl) (fun _ h => by cases h) codeSums_row_tie rfl ⟨rfl, rfl⟩ (by kernel_rfl) rfl
    (fun f fn hf hfn => by
      obtain rfl : f = 3 := Option.some.inj ((show Tryd.prog.funcNamed "downpour/downpourlaw11.CodeSums" = some 3 by kernel_rfl).symm.trans hf) |>.symm
      obtain rfl : fn = Tryd.f3 := (Option.some.inj (Tryd.func3.symm.trans hfn)).symm
      exact ⟨by kernel_rfl, fun j t ht => by
        rw [Tryd.params3] at ht
        have hm : t ∈ [24, 25, 22, 22] := by simpa using Array.mem_of_getElem? ht
        have hall : ([24, 25, 22, 22].all fun u => !Tryd.prog.wantsStandIn u) = true := by kernel_rfl
        exact (show Tryd.prog.wantsStandIn t = false by simpa using List.all_eq_true.1 hall t hm)⟩)
    (by kernel_rfl)
end Go.Proofs.YtlpmammagebkfaaDoor
