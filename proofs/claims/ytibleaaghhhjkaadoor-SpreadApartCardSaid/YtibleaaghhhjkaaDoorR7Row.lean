/- The reference's Row: by contract. -/
import Derived.Test.YtibleaaghhhjkaaDoorR1Some
import Derived.Test.YtibleaaghhhjkaaDoorR7Deg
import Derived.Test.YtibleaaghhhjkaaDoorSpBase
import Derived.Test.YtibleaaghhhjkaaDoorSpMath
namespace Go.Proofs.YtibleaaghhhjkaaDoor.Sp
open Go.RowKit
open VecM RdM SoM Vc
theorem rpmay3_any (s K P Z : Int) (w : World) : Calls Tryd.prog 38 #[.agg #[.int .u32 s, .int .i64 K, .int .i64 P, .int .i64 Z]] w fun e w' => e = .returned (.bool (mayB K P Z)) ∧ Below w.heap.size w w' := by
  go_enter Tryd.func38, Tryd.ntmps38
  go_wp2_with fail
  all_goals (go_ret; exact ⟨by simp [mayB, *]; try omega, (Below.refl _ _).alloc (Nat.le_refl _) _⟩)
set_option maxRecDepth 100000 in
set_option maxHeartbeats 3200000 in
theorem rrow_any (s id K P Z : Nat) (w : World) (hs : s < 4294967296) (hid : id < 4294967296) (hK : 1 ≤ K ∧ K ≤ 64) (hP : P ≤ 16) (hZ : 1 ≤ Z ∧ Z ≤ 16) : Calls Tryd.prog 11 #[parV s K P Z, .int .u32 (id : Int)] w (BitsOk (K + P) (spX s K P id) w) := by
  have HX0 := Lib.hid (heap_alloc_new w (.cells #[.int .u32 (s : Int), .int .i64 (K : Int), .int .i64 (P : Int), .int .i64 (Z : Int)] 24))
  have HB0 : Hid (Below w.heap.size w (w.alloc (.cells #[.int .u32 (s : Int), .int .i64 (K : Int), .int .i64 (P : Int), .int .i64 (Z : Int)] 24))) := (Below.refl _ _).alloc (Nat.le_refl _) _
  generalize hw0 : (w.alloc (.cells #[.int .u32 (s : Int), .int .i64 (K : Int), .int .i64 (P : Int), .int .i64 (Z : Int)] 24)) = w0 at *
  have HW0 := Lib.hid hw0
  have hM := fun W => rpmay3_any (s : Int) (K : Int) (P : Int) (Z : Int) W
  rw [show mayB (K : Int) (P : Int) (Z : Int) = true from (mayB_iff _ _ _).2 (by omega)] at hM
  have HM := Lib.hid hM
  have HBX := Lib.hid (fun W (hW : Below w0.heap.size w0 W) => box4 ((hW.block _ (Array.getElem?_eq_some_iff.1 HX0.out).1).trans HX0.out))
  obtain ⟨n, hnn⟩ : ∃ n, K + P = n := ⟨_, rfl⟩
  have HNN := Lib.hid hnn
  have hn80 : n ≤ 80 := by omega
  have hn1 : 1 ≤ n := by omega
  have hKP : (K : Int) + (P : Int) = (n : Int) := by omega
  have HKP := Lib.hid hKP
  have hk64 : (K : Int) ≤ 64 := by omega
  have hk1 : (1 : Int) ≤ (K : Int) := by omega
  have hp16 : (P : Int) ≤ 16 := by omega
  have hid32 : (id : Int) ≤ 4294967295 := by omega
  have hs32 : (s : Int) ≤ 4294967295 := by omega
  rw [hnn]
  unfold parV
  clear hM hw0 hnn hKP hZ hs
  by_cases hlt : id < K
  · have hlti : (id : Int) < (K : Int) := by omega
    have HXX : Hid (spX s K P id = ofL n [(id : Int)]) := Lib.hid (by
      unfold spX; rw [if_pos hlt, ofL_one n id (by have := HNN.out; omega)])
    rw [HXX.out]
    clear HXX
    go_enter Tryd.func11, Tryd.ntmps11
    go_upto_region 1 with fail
    rw [HW0.out]
    obtain ⟨c0, c1, c2, c3⟩ := HBX.out w0 (Below.refl _ _)
    go_wp2_with fail
    refine (HM.out _).mono ?_
    rintro e w1 ⟨rfl, hb1⟩
    clear c0 c1 c2 c3
    obtain ⟨c0, c1, c2, c3⟩ := HBX.out w1 hb1
    have hba : Below w1.heap.size w1 (w1.alloc (.cells #[.int .i64 (id : Int)] 3)) := (Below.refl _ _).alloc (Nat.le_refl _) _
    have hr : Row (w1.alloc (.cells #[.int .i64 (id : Int)] 3)) (w1.alloc (.cells #[.int .i64 (id : Int)] 3)).heap.size (some ⟨w1.heap.size, 0, none⟩) 1 (nv [(id : Int)]) := (row_new w1 #[.int .i64 (id : Int)] 3 (0, 0)).more (by simp)
    have HO := Lib.hid (r1bits_any n (some ⟨w1.heap.size, 0, none⟩) 1 1 _ [(id : Int)] _ hr (Nat.le_refl _) (by omega) (by omega))
    have HB3 := Lib.hid (HB0.out.trans ((hb1.trans (hba.mono hb1.size)).mono HB0.out.size))
    clear hr hba hb1
    go_wp2_with (rw [HKP.out])
    refine HO.out.mono ?_
    rintro e w3 ⟨g, rfl, ho, hb3⟩
    have HB4 := Lib.hid (HB3.out.trans (hb3.out.mono HB3.out.size))
    have HO4 := Lib.hid (own_base ho.out HB3.out.size)
    clear c0 c1 c2 c3 ho hb3
    go_wp2_with fail
    go_ret
    exact ⟨g, rfl, HO4, HB4⟩
  · have hlti : ¬ (id : Int) < (K : Int) := by omega
    have HNW := Lib.hid (fun W => r1new_any (s : Int) (id : Int) (by omega) (by omega) (by omega) (by omega) W)
    obtain ⟨x0, hx0⟩ : ∃ x0, seed (s : Int) (id : Int) = x0 := ⟨_, rfl⟩
    have hxb := seed_bounds (s : Int) (id : Int)
    rw [hx0] at HNW hxb
    have HXB := Lib.hid hxb
    obtain ⟨y, hy⟩ : ∃ y : Nat, mx (sh x0) = (y : Int) := ⟨(mx (sh x0)).toNat, by have := mx_bounds (sh x0); omega⟩
    have hyb := mx_bounds (sh x0)
    rw [hy] at hyb
    have HYY := Lib.hid hy
    have HXX : Hid (∀ d, IsDeg n (atx n y) d → ofL n (some_ n (sh x0) d) = spX s K P id) := Lib.hid fun d hd => by
      unfold spX
      rw [if_neg hlt, HNN.out]
      unfold chance
      rw [hx0, hy, Int.toNat_natCast, degF_eq hd hn80]
    clear hx0 hxb hy
    go_enter Tryd.func11, Tryd.ntmps11
    go_upto_region 1 with fail
    rw [HW0.out]
    obtain ⟨c0, c1, c2, c3⟩ := HBX.out w0 (Below.refl _ _)
    go_wp2_with fail
    refine (HM.out _).mono ?_
    rintro e w1 ⟨rfl, hb1⟩
    clear c0 c1 c2 c3
    obtain ⟨c0, c1, c2, c3⟩ := HBX.out w1 hb1
    have HB1 := Lib.hid (HB0.out.trans (hb1.mono HB0.out.size))
    clear hb1
    go_wp2_with (rw [HKP.out])
    refine (HNW.out _).mono ?_
    rintro e w2 ⟨rfl, rfl⟩
    clear c0 c1 c2 c3
    have hsrc : r1Src (w1.alloc (.cells #[.int .u32 x0] 104)) w1.heap.size x0 := heap_alloc_new w1 _
    have hb2 : Below w.heap.size w (w1.alloc (.cells #[.int .u32 x0] 104)) := HB1.out.alloc HB1.out.size _
    have HNX := Lib.hid (r1nx_any w1.heap.size x0 _ hsrc HXB.out.1 HXB.out.2)
    rw [HYY.out] at HNX
    have hsrc2 : r1Src ((w1.alloc (.cells #[.int .u32 x0] 104)).setCell ⟨w1.heap.size, 0, none⟩ (.int .u32 (sh x0))) w1.heap.size (sh x0) := by
      unfold r1Src
      rw [heap_setCell_same _ _ 0 _ _ _ hsrc]; rfl
    have HSR := Lib.hid hsrc2
    have HB2 := Lib.hid (hb2.setCell (p := ⟨w1.heap.size, 0, none⟩) HB1.out.size (.int .u32 (sh x0)))
    have HGS : Hid (w.heap.size ≤ w1.heap.size) := Lib.hid HB1.out.size
    obtain ⟨gs, hgs⟩ : ∃ gs, w1.heap.size = gs := ⟨_, rfl⟩
    rw [hgs] at HNX HSR HB2 HGS
    have HGQ := Lib.hid hgs
    clear hsrc hb2 hsrc2
    rw [HGQ.out]
    clear hgs
    go_wp2_with fail
    refine HNX.out.mono ?_
    rintro e w3 ⟨rfl, rfl⟩
    clear HNX
    generalize ((w1.alloc (.cells #[.int .u32 x0] 104)).setCell ⟨gs, 0, none⟩ (.int .u32 (sh x0))) = w3 at *
    go_wp2_with fail
    refine (rdegree_any n y w3 hn1 hn80 (by omega)).mono ?_
    rintro e w4 ⟨d, rfl, hd, hb4⟩
    have HSR4 : Hid (r1Src w4 gs (sh x0)) := Lib.hid ((hb4.out.block gs (Array.getElem?_eq_some_iff.1 HSR.out).1).trans HSR.out)
    have HB4 := Lib.hid (HB2.out.trans (hb4.out.mono HB2.out.size))
    have HDX := Lib.hid (HXX.out d hd.out)
    have hdn : d ≤ n := hd.out.2.1
    clear hb4 hd
    go_wp2_with fail
    refine (r1some_any gs n d (sh x0) w4 HSR4.out (sh_bounds x0).1 (sh_bounds x0).2 hn1 (by omega) hdn).mono ?_
    rintro e w5 ⟨A5, m5, c5, zs, rfl, hr5, hz5, hb5⟩
    have HB5 := Lib.hid (HB4.out.trans (hb5.out.below HGS.out HB4.out.size))
    have HO := Lib.hid (r1bits_any n A5 m5 c5 _ zs w5 hr5.out (Nat.le_refl _) (by have := hz5.out.1; omega) (by omega))
    rw [hz5.out.2, HDX.out] at HO
    clear hr5 hz5 hb5
    go_wp2_with fail
    refine HO.out.mono ?_
    rintro e w6 ⟨g, rfl, ho, hb6⟩
    have HB6 := Lib.hid (HB5.out.trans (hb6.out.mono HB5.out.size))
    have HO6 := Lib.hid (own_base ho.out HB5.out.size)
    clear ho hb6
    go_wp2_with fail
    go_ret
    exact ⟨g, rfl, HO6, HB6⟩
end Go.Proofs.YtibleaaghhhjkaaDoor.Sp
