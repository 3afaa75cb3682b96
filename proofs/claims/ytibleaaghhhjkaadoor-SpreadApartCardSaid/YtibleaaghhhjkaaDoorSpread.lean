/- spread's within, May, Pieces, Row: by contract. -/
import Derived.Test.YtibleaaghhhjkaaDoorSpMath
import Derived.Laws.Rows
import Derived.Test.YtibleaaghhhjkaaDoorSpBase
namespace Go.Proofs.YtibleaaghhhjkaaDoor.Sp
open Go.RowKit
open VecM RdM SoM Vc
set_option maxRecDepth 100000 in
set_option maxHeartbeats 800000 in
theorem row_no (s id : Nat) (K P Z : Int) (w : World) (hm : mayB K P Z = false) : Calls Tryd.prog 6 #[parV s K P Z, .int .u32 (id : Int)] w fun e w' => e = .returned (.pointer none) ∧ Hid (Below w.heap.size w w') := by
  have hb0 : Below w.heap.size w (w.alloc (.cells #[.int .u32 (s : Int), .int .i64 K, .int .i64 P, .int .i64 Z] 24)) := (Below.refl _ _).alloc (Nat.le_refl _) _
  have HM := Lib.hid (fun W => may_any s K P Z W)
  rw [hm] at HM
  unfold parV at HM ⊢
  clear hm
  go_enter Tryd.func6, Tryd.ntmps6
  go_wp2_with fail
  refine (HM.out _).mono ?_
  rintro e w1 ⟨rfl, hb1⟩
  have HE := Lib.hid (hb0.trans (hb1.out.mono hb0.size))
  go_wp2_with fail
  go_ret
  exact ⟨rfl, HE⟩
set_option maxRecDepth 100000 in
set_option maxHeartbeats 1600000 in
theorem row_any (s id K P Z : Nat) (w : World) (hs : s < 4294967296) (hid : id < 4294967296) (hK : 1 ≤ K ∧ K ≤ 64) (hP : P ≤ 16) (hZ : 1 ≤ Z ∧ Z ≤ 16) : Calls Tryd.prog 6 #[parV s K P Z, .int .u32 (id : Int)] w (OfOk (K + P) (spX s K P id) w) := by
  have hx := heap_alloc_new w (.cells #[.int .u32 (s : Int), .int .i64 (K : Int), .int .i64 (P : Int), .int .i64 (Z : Int)] 24)
  have hb0 : Below w.heap.size w (w.alloc (.cells #[.int .u32 (s : Int), .int .i64 (K : Int), .int .i64 (P : Int), .int .i64 (Z : Int)] 24)) := (Below.refl _ _).alloc (Nat.le_refl _) _
  have hz : (w.alloc (.cells #[.int .u32 (s : Int), .int .i64 (K : Int), .int .i64 (P : Int), .int .i64 (Z : Int)] 24)).heap.size = w.heap.size + 1 := by simp
  have hm : mayB (K : Int) (P : Int) (Z : Int) = true := (mayB_iff _ _ _).2 ⟨by omega, by omega, by omega⟩
  have HM := Lib.hid (fun W => may_any s K P Z W)
  have HPC := Lib.hid (fun W => pieces_any s K P Z W (by omega) (by omega))
  rw [hm] at HM HPC
  have hn : (K : Int) + (P : Int) = ((K + P : Nat) : Int) := by omega
  rw [if_pos rfl, hn] at HPC
  have HX := Lib.hid hx
  have HB0 := Lib.hid hb0
  have HZ' := Lib.hid hz
  obtain ⟨n, hnn⟩ : ∃ n, K + P = n := ⟨_, rfl⟩
  rw [hnn] at HPC ⊢
  have hn80 : n ≤ 80 := by omega
  have hn1 : 1 ≤ n := by omega
  have HNN := Lib.hid hnn
  have hK1 := hK.1
  have hK2 := hK.2
  have HS := Lib.hid hs
  clear hx hb0 hz hm hn hnn hK hP hZ hs
  unfold parV at HM HPC ⊢
  by_cases hlt : id < K
  · have hlt' : (id : Int) < (K : Int) := by omega
    have HXX : Hid (spX s K P id = ofL n [(id : Int)]) := by
      show _ = _
      unfold spX; rw [if_pos hlt, ofL_one n id (by have := HNN.out; omega)]
    rw [HXX.out]
    clear hlt hid
    go_enter Tryd.func6, Tryd.ntmps6
    go_wp2_with fail
    refine (HM.out _).mono ?_
    rintro e w1 ⟨rfl, hb1⟩
    have hs1 : w.heap.size < w1.heap.size := by have := hb1.out.size; have := HZ'.out; omega
    have HX1 := Lib.hid ((hb1.out.block w.heap.size (by have := HZ'.out; omega)).trans HX.out)
    have HB1 := Lib.hid (HB0.out.trans (hb1.out.mono HB0.out.size))
    obtain ⟨c0, c1, c2, c3⟩ := box4 HX1.out
    clear hb1
    go_wp2_with fail
    refine (HPC.out _).mono ?_
    rintro e w2 ⟨rfl, hb2⟩
    have hs2 : w.heap.size < w2.heap.size := by have := hb2.out.size; omega
    have HX2 := Lib.hid ((hb2.out.block w.heap.size hs1).trans HX1.out)
    have HB2 := Lib.hid (HB1.out.trans (hb2.out.mono HB1.out.size))
    clear c0 c1 c2 c3 hb2
    obtain ⟨c0, c1, c2, c3⟩ := box4 HX2.out
    have hr : Row (w2.alloc (.cells #[.int .i64 (id : Int)] 3)) (w2.heap.size + 1) (some ⟨w2.heap.size, 0, none⟩) 1 (nv [(id : Int)]) := row_new w2 #[.int .i64 (id : Int)] 3 (0, 0)
    have HO := Lib.hid (of_any n (some ⟨w2.heap.size, 0, none⟩) 1 1 _ [(id : Int)] _ hr (by simp) (by omega) (by omega))
    have HB3 : Hid (Below w.heap.size w (w2.alloc (.cells #[.int .i64 (id : Int)] 3))) := HB2.out.alloc HB2.out.size _
    clear hr
    go_wp2_with fail
    refine HO.out.mono ?_
    rintro e w3 ⟨g, h, rfl, hg, hh, hv, hb3⟩
    have hs3 : w.heap.size ≤ (w2.alloc (.cells #[.int .i64 (id : Int)] 3)).heap.size := HB3.out.size
    have HE := Lib.hid (HB3.out.trans (hb3.out.mono HB3.out.size))
    have HG : Hid (w.heap.size ≤ g ∧ w.heap.size ≤ h) := ⟨by omega, by omega⟩
    clear hb3 hg hh hs3 c0 c1 c2 c3
    go_wp2_with fail
    go_ret
    exact ⟨g, h, rfl, HG.out.1, HG.out.2, hv, HE⟩
  · have hlt' : ¬ (id : Int) < (K : Int) := by omega
    have HXX : Hid (spX s K P id = ofL n (chance s n id)) := by
      show _ = _
      have := HNN.out
      unfold spX; rw [if_neg hlt, this]
    rw [HXX.out]
    obtain ⟨Q, hQ⟩ : ∃ Q, chance s n id = Q := ⟨_, rfl⟩
    rw [hQ]
    have HQ := Lib.hid hQ
    clear hlt hQ HXX
    go_enter Tryd.func6, Tryd.ntmps6
    go_wp2_with fail
    refine (HM.out _).mono ?_
    rintro e w1 ⟨rfl, hb1⟩
    have hs1 : w.heap.size < w1.heap.size := by have := hb1.out.size; have := HZ'.out; omega
    have HX1 := Lib.hid ((hb1.out.block w.heap.size (by have := HZ'.out; omega)).trans HX.out)
    have HB1 := Lib.hid (HB0.out.trans (hb1.out.mono HB0.out.size))
    obtain ⟨c0, c1, c2, c3⟩ := box4 HX1.out
    clear hb1
    go_wp2_with fail
    refine (HPC.out _).mono ?_
    rintro e w2 ⟨rfl, hb2⟩
    have hs2 : w.heap.size < w2.heap.size := by have := hb2.out.size; omega
    have HX2 := Lib.hid ((hb2.out.block w.heap.size hs1).trans HX1.out)
    have HB2 := Lib.hid (HB1.out.trans (hb2.out.mono HB1.out.size))
    clear c0 c1 c2 c3 hb2
    obtain ⟨c0, c1, c2, c3⟩ := box4 HX2.out
    have HNW := Lib.hid (Go.Proofs.YtibleaaghhhjkaaDoor.new_any (s : Int) (id : Int) (by omega) (by have := HS.out; omega) (by omega) (by omega) w2)
    go_wp2_with fail
    refine HNW.out.mono ?_
    rintro e w3 ⟨rfl, hsrc3, hb3, hz3⟩
    have HSRC := Lib.hid hsrc3
    have HB3 := Lib.hid (HB2.out.trans (hb3.mono HB2.out.size))
    have hs3 : w2.heap.size < w3.heap.size := by omega
    clear hz3 hsrc3 hb3 c0 c1 c2 c3 HNW
    go_wp2_with fail
    have hbs3 := HB3.out.size
    refine (Go.Proofs.YtibleaaghhhjkaaDoor.new_in n w3 hn1 hn80).mono ?_
    rintro e w4 ⟨rfl, htab, hb4⟩
    have HSRC4 := Lib.hid (HSRC.out.below hb4.out HSRC.out.lt)
    have HB4 := Lib.hid (HB3.out.trans (hb4.out.mono HB3.out.size))
    have hs4 := htab.out.lt
    have hs34 := hb4.out.size
    have HN4 := Lib.hid (Go.Proofs.YtibleaaghhhjkaaDoor.next_any w2.heap.size _ w4 HSRC4.out)
    have hxm := mx_bounds (sh (seed (s : Int) (id : Int)))
    obtain ⟨x, hxx⟩ : ∃ x : Nat, mx (sh (seed (s : Int) (id : Int))) = (x : Int) := ⟨(mx (sh (seed (s : Int) (id : Int)))).toNat, by omega⟩
    have hx32 : x < 4294967296 := by omega
    rw [hxx] at HN4
    have HCH : Hid (some_ n (sh (seed (s : Int) (id : Int))) (degF n (atx n x)) = Q) := by
      show _ = _
      rw [← HQ.out]
      unfold chance
      rw [hxx, Int.toNat_natCast]
    generalize seed (s : Int) (id : Int) = sd at *
    have HHX := Lib.hid hx32
    clear hb4 HSRC HB3 hxm hxx hx32 HQ
    go_wp2_with fail
    refine HN4.out.mono ?_
    rintro e w5 ⟨rfl, hsrc5, hb5, hz5⟩
    have HTAB5 : Hid (Tab w5 w3.heap.size n 0 0 (.slice none 0 0)) := (hb5.block w3.heap.size hs4 (by omega)).trans htab.out
    have HSRC5 := Lib.hid hsrc5
    have HB5 := Lib.hid (HB4.out.trans (hb5.below (by omega) HB4.out.size))
    have hs5 : w5.heap.size = w4.heap.size := hz5
    have HZ5 := Lib.hid hs5
    clear hsrc5 hb5 hz5 hs5 htab HN4 HSRC4 HB4
    go_wp2_with fail
    refine (Go.Proofs.YtibleaaghhhjkaaDoor.degree_first w3.heap.size n x w5 HTAB5.out hn1 hn80 HHX.out).mono ?_
    rintro e w6 ⟨d, rfl, hdeg, _, hb6⟩
    have HD : Hid (degF n (atx n x) = d) := degF_eq hdeg.out hn80
    rw [HD.out] at HCH
    have hd1 := hdeg.out.1
    have hdn := hdeg.out.2.1
    have hz5 := HZ5.out
    have HSRC6 := Lib.hid (hb6.out.other HSRC5.out (by omega) (by omega))
    have HB6 := Lib.hid (HB5.out.trans (hb6.out.below (by omega) HB5.out.size))
    have hs6 := hb6.out.size
    have HZ6 : Hid (w4.heap.size ≤ w6.heap.size) := by show _ ≤ _; omega
    have HST := Lib.hid (Go.Proofs.YtibleaaghhhjkaaDoor.some_tot w2.heap.size n (sh sd) (d : Int) w6 HSRC6.out (by omega) d (by rw [kk_nat]; omega))
    clear hdeg hb6 HTAB5 HSRC5 HB5 hz5 hs6 HZ5 HD
    go_wp2_with fail
    refine HST.out.mono ?_
    rintro e w7 ⟨A7, c7, rfl, hrow7, _, hb7⟩
    have hz6 := HZ6.out
    have HB7 := Lib.hid (HB6.out.trans (hb7.out.below (by omega) HB6.out.size))
    have HO := Lib.hid (of_any n A7 d c7 _ (some_ n (sh sd) d) w7 hrow7.out (Nat.le_refl _) (by omega) (by omega))
    rw [HCH.out] at HO
    have hbs7 := HB7.out.size
    clear hrow7 hb7 HST HSRC6 HB6 hz6
    go_wp2_with fail
    refine HO.out.mono ?_
    rintro e w8 ⟨g, h, rfl, hg, hh, hv, hb8⟩
    have HE := Lib.hid (HB7.out.trans (hb8.out.mono HB7.out.size))
    have HG : Hid (w.heap.size ≤ g ∧ w.heap.size ≤ h) := ⟨by omega, by omega⟩
    clear hb8 hg hh
    go_wp2_with fail
    go_ret
    exact ⟨g, h, rfl, HG.out.1, HG.out.2, hv, HE⟩
end Go.Proofs.YtibleaaghhhjkaaDoor.Sp
