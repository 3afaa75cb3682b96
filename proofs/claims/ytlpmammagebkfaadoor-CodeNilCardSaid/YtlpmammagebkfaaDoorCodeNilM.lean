/- The tied card of downpourlaw11.CodeNil. -/
import Derived.Test.YtlpmammagebkfaaDoorZ9
namespace Go.Proofs.YtlpmammagebkfaaDoor.Cd
open Go.RowKit
open VecM RdM Vc Sp Pc
/-- four cells in a box below what is one's own -/
theorem own_set4 {w : World} {base b n : Nat} {e : TypeId} {v : Value} {xs : List Value} (h : w.ownsRow base e 1 v n xs) (hb : b < base) (v0 v1 v2 v3 : Value) : ((((w.setCell ⟨b, 0, none⟩ v0).setCell ⟨b, 1, none⟩ v1).setCell ⟨b, 2, none⟩ v2).setCell ⟨b, 3, none⟩ v3).ownsRow base e 1 v n xs := by
  have hbo : ∀ g, v.ownBlock = some g → some b ≠ some g := fun g e => by
    have h1 := (h.lt g e).1
    intro h; injection h with h; omega
  exact own_grown (own_grown (own_grown (own_grown h (grown_set1 w b 0 v0) hbo) (grown_set1 _ b 1 v1) hbo) (grown_set1 _ b 2 v2) hbo) (grown_set1 _ b 3 v3) hbo
theorem below_set4 {w w1 : World} {B b : Nat} (h : Below B w w1) (hb : B ≤ b) (v0 v1 v2 v3 : Value) : Below B w ((((w1.setCell ⟨b, 0, none⟩ v0).setCell ⟨b, 1, none⟩ v1).setCell ⟨b, 2, none⟩ v2).setCell ⟨b, 3, none⟩ v3) :=
  (((h.setCell hb _).setCell hb _).setCell hb _).setCell hb _
theorem count_zero (Z : Int) : BlkM.count 0 Z = 0 := by
  unfold BlkM.count
  rw [if_pos (by omega)]
set_option maxRecDepth 100000 in
set_option maxHeartbeats 3200000 in
theorem cdnil_walk (s n c id : Nat) (K0 P0 Z0 : Int) (A : Option Addr) (l : List UInt8) (w : World) (ht : DTab w) (hr : Row w w.heap.size A n (bv l)) (hn : n ≤ c ∧ c ≤ 9223372036854775807) :
    Calls Tryd.prog 4 #[parV s K0 P0 Z0, .slice A n c, .int .u32 (id : Int)] w fun e w' => e = .returned (.bool true) ∧ Below w.heap.size w w' := by
  have hal : Below w.heap.size w (w.alloc (.cells #[.int .u32 (s : Int), .int .i64 K0, .int .i64 P0, .int .i64 Z0] 24)) := (Below.refl _ _).alloc (Nat.le_refl _) _
  have hx := heap_alloc_new w (.cells #[.int .u32 (s : Int), .int .i64 K0, .int .i64 P0, .int .i64 Z0] 24)
  have hz : (w.alloc (.cells #[.int .u32 (s : Int), .int .i64 K0, .int .i64 P0, .int .i64 Z0] 24)).heap.size = w.heap.size + 1 := by simp
  have HT := Lib.hid ht
  have HSO := Lib.hid (sound11_any s n c w.heap.size K0 P0 Z0 A l (w.alloc (.cells #[.int .u32 (s : Int), .int .i64 K0, .int .i64 P0, .int .i64 Z0] 24)) (hr.below hal) hn hal.size)
  have HAL := Lib.hid hal
  have HX := Lib.hid hx
  have HZ := Lib.hid hz
  obtain ⟨a0, a1, a2, a3⟩ := box4 hx
  unfold parV at HSO ⊢
  clear hal hx hz ht hr hn
  go_enter Tryd.func4, Tryd.ntmps4
  go_upto_region 2 with fail
  generalize (w.alloc (.cells #[.int .u32 (s : Int), .int .i64 K0, .int .i64 P0, .int .i64 Z0] 24)) = w0 at *
  go_wp2_with fail
  refine HSO.out.mono ?_
  rintro e w1 ⟨K, P, Z, A1, c1, img, rfl, hf, ho, hb1⟩
  have hx1 := (hb1.out.block w.heap.size (by have := HZ.out; omega)).trans HX.out
  obtain ⟨b0, b1, b2, b3⟩ := box4 hx1
  obtain ⟨f0, f1, f2, f3⟩ := frozenBox hx1
  have hx2 := setBox hx1 (.int .u32 (s : Int)) (.int .i64 (K : Int)) (.int .i64 (P : Int)) (.int .i64 (Z : Int))
  have HX2 := Lib.hid hx2
  have HF := hf
  have HB1 := hb1
  clear a0 a1 a2 a3 hx1 hx2 HSO hf hb1
  unfold parV
  go_upto_region 3 with fail
  have HO2 := Lib.hid (own_set4 ho.out (b := w.heap.size) (by have := HZ.out; omega) (.int .u32 (s : Int)) (.int .i64 (K : Int)) (.int .i64 (P : Int)) (.int .i64 (Z : Int)))
  have HB2 := Lib.hid (below_set4 (b := w.heap.size) (HAL.out.trans (HB1.out.mono HAL.out.size)) (Nat.le_refl _) (.int .u32 (s : Int)) (.int .i64 (K : Int)) (.int .i64 (P : Int)) (.int .i64 (Z : Int)))
  clear b0 b1 b2 b3 f0 f1 f2 f3 ho HB1
  generalize ((((w1.setCell ⟨w.heap.size, 0, none⟩ (.int .u32 (s : Int))).setCell ⟨w.heap.size, 1, none⟩ (.int .i64 (K : Int))).setCell ⟨w.heap.size, 2, none⟩ (.int .i64 (P : Int))).setCell ⟨w.heap.size, 3, none⟩ (.int .i64 (Z : Int))) = w2 at *
  obtain ⟨⟨hK1, hK2⟩, hP1, ⟨hZ1, hZ2⟩, ⟨hi1, hi2⟩, hcn⟩ := HF.out
  have HK1 : Hid ((1 ≤ K ∧ K ≤ 64) ∧ P ≤ 16 ∧ (1 ≤ Z ∧ Z ≤ 16)) := Lib.hid ⟨⟨hK1, hK2⟩, hP1, hZ1, hZ2⟩
  have HNE : Hid (((BlkM.count (img.length : Int) (Z : Int) : Nat) : Int) ≠ ((K : Int) + 1)) := Lib.hid (by rw [hcn]; omega)
  have HNZ : Hid (((BlkM.count ((0 : Nat) : Int) (Z : Int) : Nat) : Int) ≠ (K : Int)) := Lib.hid (by rw [show ((0 : Nat) : Int) = 0 from rfl, count_zero]; omega)
  obtain ⟨b0, b1, b2, b3⟩ := box4 HX2.out
  have hkk : (K : Int) ≤ 64 ∧ 1 ≤ (K : Int) := by omega
  have hk1 := hkk.1
  have hk2 := hkk.2
  clear hkk hK1 hK2 hP1 hZ1 hZ2 hi1 hi2 hcn
  go_upto_region 5 with fail
  have hal3 : Below w2.heap.size w2 (w2.alloc (.cells #[.int .u32 (s : Int), .int .i64 ((K : Int) + 1), .int .i64 (P : Int), .int .i64 (Z : Int)] 24)) := (Below.refl _ _).alloc (Nat.le_refl _) _
  have hx3 := heap_alloc_new w2 (.cells #[.int .u32 (s : Int), .int .i64 ((K : Int) + 1), .int .i64 (P : Int), .int .i64 (Z : Int)] 24)
  have HX3 := Lib.hid hx3
  have HX4 : Hid ((w2.alloc (.cells #[.int .u32 (s : Int), .int .i64 ((K : Int) + 1), .int .i64 (P : Int), .int .i64 (Z : Int)] 24)).heap[w.heap.size]? = _) := Lib.hid ((hal3.block w.heap.size (Array.getElem?_eq_some_iff.1 HX2.out).1).trans HX2.out)
  have HB3 := Lib.hid (HB2.out.trans (hal3.mono HB2.out.size))
  have hz3 : w2.heap.size < (w2.alloc (.cells #[.int .u32 (s : Int), .int .i64 ((K : Int) + 1), .int .i64 (P : Int), .int .i64 (Z : Int)] 24)).heap.size := by simp
  have HZ3 := Lib.hid hz3
  have HZ4 : Hid (w.heap.size < (w2.alloc (.cells #[.int .u32 (s : Int), .int .i64 ((K : Int) + 1), .int .i64 (P : Int), .int .i64 (Z : Int)] 24)).heap.size) := Lib.hid (Nat.lt_trans (Array.getElem?_eq_some_iff.1 HX2.out).1 hz3)
  have HO3 := Lib.hid (own_below HO2.out hal3)
  clear b0 b1 b2 b3 hal3 hx3 hz3 HX2 HO2 HB2
  generalize (w2.alloc (.cells #[.int .u32 (s : Int), .int .i64 ((K : Int) + 1), .int .i64 (P : Int), .int .i64 (Z : Int)] 24)) = w3 at *
  have KX3 := Lib.hid (fun (W : World) (hW : Below w3.heap.size w3 W) => box4 ((hW.block w2.heap.size HZ3.out).trans HX3.out))
  have KX4 := Lib.hid (fun (W : World) (hW : Below w3.heap.size w3 W) => box4 ((hW.block w.heap.size HZ4.out).trans HX4.out))
  go_wp2_with fail
  refine (sym_nil id w3).mono ?_
  rintro e w4 ⟨A4, n4, c4, rfl, hn4, _, hb4⟩
  have hn4' : n4 = 0 := hn4
  subst hn4'
  have HB4 := Lib.hid hb4
  clear hn4 hb4
  go_wp2_with fail
  refine (pcs_nil w4).mono ?_
  rintro e w5 ⟨rfl, hb5⟩
  have HB5 := Lib.hid (HB4.out.trans (hb5.out.mono HB4.out.size))
  clear hb5
  obtain ⟨b0, b1, b2, b3⟩ := KX3.out w5 HB5.out
  have hone : (K : Int) + 1 ≤ 65 := by omega
  go_wp2_with fail
  refine (new_no s ((K : Int) + 1) (P : Int) (Z : Int) A1 img.length c1 w5 (.inr HNE.out)).mono ?_
  rintro e w6 ⟨rfl, hb6⟩
  have HB6 := Lib.hid (HB5.out.trans (hb6.out.mono HB5.out.size))
  clear hb6 b0 b1 b2 b3
  obtain ⟨b0, b1, b2, b3⟩ := KX4.out w6 HB6.out
  go_wp2_with fail
  refine (new_no s (K : Int) (P : Int) (Z : Int) none 0 0 w6 (.inr HNZ.out)).mono ?_
  rintro e w7 ⟨rfl, hb7⟩
  have HB7 := Lib.hid (HB6.out.trans (hb7.out.mono HB6.out.size))
  clear hb7 b0 b1 b2 b3
  go_wp2_with fail
  refine (awake11_any w7 (HT.out.grow (HB3.out.trans (HB7.out.mono HB3.out.size)))).mono ?_
  rintro e w8 ⟨rfl, hb8⟩
  have HB8 := Lib.hid (HB3.out.trans ((HB7.out.trans (hb8.out.mono HB7.out.size)).mono HB3.out.size))
  clear hb8
  go_wp2_with fail
  go_ret
  exact ⟨rfl, HB8.out⟩
end Go.Proofs.YtlpmammagebkfaaDoor.Cd
namespace Go.Proofs.YtlpmammagebkfaaDoor
open Go.RowKit Go.ChangeShapes Go.WideShapes Go.ChangeAt Vc
set_option maxRecDepth 100000 in
theorem codeNil_lifted (os : Os) (started : os.Started) (H : Type) (enc : TypeId × Value → H) :
    ReturnsInHanded {} Tryd.checked os 4 .any (fun w args => (Rows.codeNilSpec.pre enc Tryd.prog Tryd.f4 [] false w args ∧ laidMetH Tryd.prog LB w) ∧ sizedMet enc Tryd.prog Tryd.f4 (OpenSpec.ofChange Rows.codeNilSpec) false w args) (Rows.codeNilSpec.post enc Tryd.prog Tryd.f4 false true false false) := by
  refine law_lift_laid (C := Tryd.checked) (tb := 4) (X := fun w _ => laidMetH Tryd.prog LB w) (fun _ _ _ hh h => h.of_heap hh) Tryd.own started (by kernel_rfl) Tryd.func4
    (ChangeSpec.witness_shaped (enc := enc) (C := Tryd.checked) (os := os) (X := fun w _ => laidMetH Tryd.prog LB w) false (World.doorLaid Tryd.prog 400 os) #[.agg #[.int .u32 0, .int .i64 0, .int .i64 0, .int .i64 0], .slice none 0 0, .int .u32 0] 8 rfl (World.shaped_of_RefB (by kernel_rfl) (by kernel_rfl)) (by kernel_rfl) (by kernel_rfl) (by kernel_rfl) (door_metB os _)) Tryd.laidOut (by kernel_rfl) rfl rfl Tryd.underlying4 ?_ ?_
  · intro ds hds
    match ds, hds with
    | [_, _, _], _ => rfl
  intro W base args ds p hval0 hA0 _ _ hsz0 hX0
  have hval : ∀ (j : Nat) t v, Tryd.f4.params[j]? = some t → args[j]? = some v → Value.okWide Tryd.prog W .any base t v := hval0
  have hA : DataW.TrodAll enc Tryd.prog W 0 (fun _ => true) true Tryd.f4.params.toList args.toList ds p := hA0
  rw [Tryd.params4] at hA hval
  obtain ⟨v0, v1, v2, d0, d1, d2, p0, p1, p2, rfl, rfl, rfl, h0, h1, h2⟩ := trodAll_three hA
  obtain ⟨s0, K0, L0, Z0, rfl, hps0, hpK0, hpL0, hpZ0⟩ := open_par Tryd.underlying24 ⟨rfl, rfl, rfl, rfl⟩ Tryd.underlying22 Tryd.underlying3 Tryd.underlying3 Tryd.underlying3 ⟨by kernel_rfl, by kernel_rfl, by kernel_rfl, by kernel_rfl⟩ (by kernel_rfl) (hval 0 24 v0 rfl rfl) h0
  obtain ⟨A1, n1, cap1, l1, rfl, hrow1, hnc1, hcm1⟩ := open_bytes Tryd.underlying25 Tryd.underlying5 Tryd.cells5 (hval 1 25 v1 rfl rfl) h1
  obtain ⟨x2, rfl, hx2⟩ := open_u32 Tryd.underlying22 (hval 2 22 v2 rfl rfl) h2
  exact Cd.cdnil_walk s0 n1 cap1 x2 K0 L0 Z0 A1 l1 W (dtab_of_laid hX0) hrow1 ⟨hnc1, hcm1⟩

theorem codeNil_holds : Rows.CodeNilSaid :=
  OpenClaim.holds_of_wide 4 Tryd.f4 rfl rfl rfl rfl rfl rfl rfl ⟨rfl, rfl, rfl, rfl, rfl⟩ rfl rfl rfl rfl rfl (by kernel_rfl) Tryd.func4 (by kernel_rfl)
    (of_decide_eq_true (by kernel_rfl)) (by unfold Func.isWrapper; rw [if_neg (of_decide_eq_false (by kernel_rfl))]; exact ⟨rfl, rfl⟩)
    (fun os started H enc _ => codeNil_lifted os started H enc)

theorem codeNil_card : Rows.CodeNilCardSaid :=
  Claim7.holds_tied_plain_at .later [] [.data] true _ false
    codeNil_holds (fun _ h => by cases h) (by kernel_rfl) (fun _ h => by cases h) codeNil_row_tie rfl ⟨rfl, rfl⟩ (by kernel_rfl) rfl
    (fun f fn hf hfn => by
      obtain rfl : f = 4 := Option.some.inj ((show Tryd.prog.funcNamed "downpour/downpourlaw11.CodeNil" = some 4 by kernel_rfl).symm.trans hf) |>.symm
      obtain rfl : fn = Tryd.f4 := (Option.some.inj (Tryd.func4.symm.trans hfn)).symm
      exact ⟨by kernel_rfl, fun j t ht => by
        rw [Tryd.params4] at ht
        have hm : t ∈ [24, 25, 22] := by simpa using Array.mem_of_getElem? ht
        have hall : ([24, 25, 22].all fun u => !Tryd.prog.wantsStandIn u) = true := by kernel_rfl
        exact (show Tryd.prog.wantsStandIn t = false by simpa using List.all_eq_true.1 hall t hm)⟩)
    (by kernel_rfl)
end Go.Proofs.YtlpmammagebkfaaDoor
