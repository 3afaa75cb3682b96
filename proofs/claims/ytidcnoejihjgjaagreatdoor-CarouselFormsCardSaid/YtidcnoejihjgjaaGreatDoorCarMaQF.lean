/- carousel's Manifest, and what New refuses: by contracts. -/
import Derived.Test.YtidcnoejihjgjaaGreatDoorCarWrQF
namespace Go.Proofs.YtidcnoejihjgjaaGreatDoor.Car
open Go.RowKit
open VecM RdM Vc Sp Pc El Cd Dc
set_option maxRecDepth 100000 in
set_option maxHeartbeats 1600000 in
theorem cnew_long (Ak : Option Addr) (nk ck s v : Nat) (Ai : Option Addr) (n ci : Nat) (img : List UInt8) (Z0 P0 : Int) (w : World) (ht : Sh.Tab w) (hi : Row w w.heap.size Ai n (bv img)) (hn : n ≤ 1000) (hk : 64 < nk) :
    Calls Tryz.prog 6 #[.slice Ak nk ck, .int .u32 (s : Int), .int .u32 (v : Int), .slice Ai n ci, .int .i64 Z0, .int .i64 P0] w fun e w' => e = .returned (.tuple #[.pointer none, .int .i64 1]) ∧ Hid (Below w.heap.size w w') := by
  have HSUM := Lib.hid (Sh.sum_any w.heap.size n ci Ai img w ht hi (Nat.le_refl _) (by omega))
  have hki : (64 : Int) < (nk : Int) := by omega
  clear ht hi hn
  go_enter Tryz.func6, Tryz.ntmps6
  go_wp2_with fail
  refine HSUM.out.mono ?_
  rintro e w1 ⟨A1, c1, rfl, ho1, hb1⟩
  have HX2 := Lib.hid (heap_alloc_new w1 (.cells #[.int .u32 (s : Int), .int .u32 (v : Int), .int .i64 (n : Int), .int .i64 Z0, .int .i64 P0, .slice A1 32 c1] 32))
  have HB2 : Hid (Below w.heap.size w (w1.alloc (.cells #[.int .u32 (s : Int), .int .u32 (v : Int), .int .i64 (n : Int), .int .i64 Z0, .int .i64 P0, .slice A1 32 c1] 32))) := Lib.hid (hb1.out.trans (((Below.refl w1.heap.size w1).alloc (Nat.le_refl _) _).mono hb1.out.size))
  clear HSUM ho1 hb1
  go_upto_region 2 with fail
  generalize (w1.alloc (.cells #[.int .u32 (s : Int), .int .u32 (v : Int), .int .i64 (n : Int), .int .i64 Z0, .int .i64 P0, .slice A1 32 c1] 32)) = w2 at *
  go_wp2_with fail
  go_ret2
  exact ⟨rfl, HB2⟩
set_option maxRecDepth 100000 in
set_option maxHeartbeats 1600000 in
theorem cnew_bad (Ak : Option Addr) (nk ck s v : Nat) (Ai : Option Addr) (n ci : Nat) (img : List UInt8) (Z0 P0 : Int) (w : World) (ht : Sh.Tab w) (hi : Row w w.heap.size Ai n (bv img)) (hn : n ≤ 1000) (hk : nk ≤ 64) (hm : manB (n : Int) Z0 P0 32 = false) :
    Calls Tryz.prog 6 #[.slice Ak nk ck, .int .u32 (s : Int), .int .u32 (v : Int), .slice Ai n ci, .int .i64 Z0, .int .i64 P0] w fun e w' => e = .returned (.tuple #[.pointer none, .int .i64 1]) ∧ Hid (Below w.heap.size w w') := by
  have HSUM := Lib.hid (Sh.sum_any w.heap.size n ci Ai img w ht hi (Nat.le_refl _) (by omega))
  have hki : ¬ (64 : Int) < (nk : Int) := by omega
  have HM := Lib.hid hm
  clear hm
  clear ht hi hn
  go_enter Tryz.func6, Tryz.ntmps6
  go_wp2_with fail
  refine HSUM.out.mono ?_
  rintro e w1 ⟨A1, c1, rfl, ho1, hb1⟩
  have HX2 := Lib.hid (heap_alloc_new w1 (.cells #[.int .u32 (s : Int), .int .u32 (v : Int), .int .i64 (n : Int), .int .i64 Z0, .int .i64 P0, .slice A1 32 c1] 32))
  have HB2 : Hid (Below w.heap.size w (w1.alloc (.cells #[.int .u32 (s : Int), .int .u32 (v : Int), .int .i64 (n : Int), .int .i64 Z0, .int .i64 P0, .slice A1 32 c1] 32))) := Lib.hid (hb1.out.trans (((Below.refl w1.heap.size w1).alloc (Nat.le_refl _) _).mono hb1.out.size))
  clear HSUM ho1 hb1
  go_upto_region 2 with fail
  generalize (w1.alloc (.cells #[.int .u32 (s : Int), .int .u32 (v : Int), .int .i64 (n : Int), .int .i64 Z0, .int .i64 P0, .slice A1 32 c1] 32)) = w2 at *
  obtain ⟨c0, c1', c2, d3, d4, d5⟩ := bx6 HX2.out
  have HMM := Lib.hid (manMay_any s v (n : Int) Z0 P0 A1 32 c1 w2)
  rw [HM.out] at HMM
  go_wp2_with fail
  refine HMM.out.mono ?_
  rintro e w3 ⟨rfl, hb3⟩
  have HB3 := Lib.hid (HB2.out.trans (hb3.mono HB2.out.size))
  clear HMM hb3 c0 c1' c2 d3 d4 d5
  go_wp2_with fail
  go_ret2
  exact ⟨rfl, HB3⟩
theorem set6_below {w W : World} {B g : Nat} (hb : Below B w W) (hg : B ≤ g) (v0 v1 v2 v3 v4 v5 : Value) :
    Below B w ((((((W.setCell ⟨g, 0, none⟩ v0).setCell ⟨g, 1, none⟩ v1).setCell ⟨g, 2, none⟩ v2).setCell ⟨g, 3, none⟩ v3).setCell ⟨g, 4, none⟩ v4).setCell ⟨g, 5, none⟩ v5) :=
  (((((hb.setCell hg v0).setCell hg v1).setCell hg v2).setCell hg v3).setCell hg v4).setCell hg v5
theorem set6_row {W W' : World} {g n : Nat} {A : Option Addr} {xs : List Value} (h : RowP W (fun b => b ≠ g) A n xs) (hz : W'.heap.size = W.heap.size) (hr : ∀ b, b ≠ g → W'.heap[b]? = W.heap[b]?) : Row W' W'.heap.size A n xs :=
  RowP.row (h.keep (w' := W') (show W.heap.size ≤ W'.heap.size by omega) fun b hb _ => hr b hb)
set_option maxRecDepth 100000 in
set_option maxHeartbeats 3200000 in
theorem cman_any {g s v n zz p kk gc nk ck ch : Nat} {Ak Ah : Option Addr} {hash : List UInt8} {w : World} (hx : w.heap[g]? = some (.cells (carC Ak nk ck s v (n : Int) (zz : Int) (p : Int) Ah ch kk gc) 62 (0, 0))) (hh : Row w w.heap.size Ah 32 (bv hash)) :
    Calls Tryz.prog 17 #[.pointer (some ⟨g, 0, none⟩)] w fun e w' => ∃ A2 c2, e = .returned (.agg #[.int .u32 (s : Int), .int .u32 (v : Int), .int .i64 (n : Int), .int .i64 (zz : Int), .int .i64 (p : Int), .slice A2 32 c2]) ∧ Hid (Row w' w'.heap.size A2 32 (bv hash)) ∧ Hid (Below w.heap.size w w') := by
  have hlt : g < w.heap.size := (Array.getElem?_eq_some_iff.1 hx).1
  have hb0 : Below w.heap.size w (w.alloc (.cells #[.int .u32 0, .int .u32 0, .int .i64 0, .int .i64 0, .int .i64 0, .slice none 0 0] 32)) := (Below.refl _ _).alloc (Nat.le_refl _) _
  have HB0 := Lib.hid hb0
  have HZ0 := Lib.hid (heap_alloc_new w (.cells #[.int .u32 0, .int .u32 0, .int .i64 0, .int .i64 0, .int .i64 0, .slice none 0 0] 32))
  have HL0 : Hid (w.heap.size < (w.alloc (.cells #[.int .u32 0, .int .u32 0, .int .i64 0, .int .i64 0, .int .i64 0, .slice none 0 0] 32)).heap.size) := Lib.hid (by simp)
  have HX0 : Hid ((w.alloc (.cells #[.int .u32 0, .int .u32 0, .int .i64 0, .int .i64 0, .int .i64 0, .slice none 0 0] 32)).heap[g]? = some (.cells (carC Ak nk ck s v (n : Int) (zz : Int) (p : Int) Ah ch kk gc) 62 (0, 0))) := Lib.hid ((hb0.block g hlt).trans hx)
  have HH := Lib.hid (hh.below hb0)
  have HHL : Hid (hash.length = 32) := Lib.hid hh.blen
  clear hb0 hx hlt hh
  go_enter Tryz.func17, Tryz.ntmps17
  go_upto_region 1 with fail
  generalize hw0 : (w.alloc (.cells #[.int .u32 0, .int .u32 0, .int .i64 0, .int .i64 0, .int .i64 0, .slice none 0 0] 32)) = w0 at *
  clear hw0
  have h2 := bx7 HX0.out
  have HEM := Lib.hid (Car.empty_no g gc w0 (h2 11 _ rfl))
  go_wp2_with fail
  refine HEM.out.mono ?_
  rintro e w1 ⟨rfl, rfl⟩
  have c1 : w0.cell? ⟨g, 1, none⟩ = some (.int .u32 (s : Int)) := h2 1 _ rfl
  have c2 : w0.cell? ⟨g, 2, none⟩ = some (.int .u32 (v : Int)) := h2 2 _ rfl
  have c3 : w0.cell? ⟨g, 3, none⟩ = some (.int .i64 (n : Int)) := h2 3 _ rfl
  have c4 : w0.cell? ⟨g, 4, none⟩ = some (.int .i64 (zz : Int)) := h2 4 _ rfl
  have c5 : w0.cell? ⟨g, 5, none⟩ = some (.int .i64 (p : Int)) := h2 5 _ rfl
  have c6 : w0.cell? ⟨g, 6, none⟩ = some (.slice Ah 32 ch) := h2 6 _ rfl
  clear h2 HEM
  have HX1 := Lib.hid (heap_alloc_new w0 (.cells #[.int .u32 (s : Int), .int .u32 (v : Int), .int .i64 (n : Int), .int .i64 (zz : Int), .int .i64 (p : Int), .slice Ah 32 ch] 32))
  have HB01 : Hid (Below w0.heap.size w0 (w0.alloc (.cells #[.int .u32 (s : Int), .int .u32 (v : Int), .int .i64 (n : Int), .int .i64 (zz : Int), .int .i64 (p : Int), .slice Ah 32 ch] 32))) := Lib.hid ((Below.refl _ _).alloc (Nat.le_refl _) _)
  have HL1 : Hid (w0.heap.size < (w0.alloc (.cells #[.int .u32 (s : Int), .int .u32 (v : Int), .int .i64 (n : Int), .int .i64 (zz : Int), .int .i64 (p : Int), .slice Ah 32 ch] 32)).heap.size) := Lib.hid (by simp)
  go_upto_region 4 with fail
  clear c1 c2 c3 c4 c5 c6
  generalize hw1 : (w0.alloc (.cells #[.int .u32 (s : Int), .int .u32 (v : Int), .int .i64 (n : Int), .int .i64 (zz : Int), .int .i64 (p : Int), .slice Ah 32 ch] 32)) = w1 at *
  clear hw1
  have HCL := Lib.hid (clone_any w.heap.size 32 ch Ah hash w1 (HH.out.below (HB01.out.mono HB0.out.size)) (by omega) (Nat.le_trans HB0.out.size HB01.out.size))
  obtain ⟨d0, d1, d2, d3, d4, d5⟩ := bx6 HX1.out
  go_wp2_with fail
  refine HCL.out.mono ?_
  rintro e w2 ⟨A2, n2, c2, rfl, hn2, ho2, hb2⟩
  obtain rfl : n2 = 32 := hn2.out.trans HHL.out
  have HX2 : Hid (w2.heap[w0.heap.size]? = some (.cells #[.int .u32 (s : Int), .int .u32 (v : Int), .int .i64 (n : Int), .int .i64 (zz : Int), .int .i64 (p : Int), .slice Ah 32 ch] 32 (0, 0))) := Lib.hid ((hb2.block w0.heap.size HL1.out).trans HX1.out)
  have HZ2 : Hid (w2.heap[w.heap.size]? = some (.cells #[.int .u32 0, .int .u32 0, .int .i64 0, .int .i64 0, .int .i64 0, .slice none 0 0] 32 (0, 0))) := Lib.hid ((hb2.block w.heap.size (by have := HL0.out; have := HL1.out; omega)).trans ((HB01.out.block w.heap.size HL0.out).trans HZ0.out))
  have HB2 : Hid (Below w.heap.size w w2) := Lib.hid (HB0.out.trans ((HB01.out.trans (hb2.mono HB01.out.size)).mono HB0.out.size))
  have HR2 := Lib.hid (rowP_own ho2)
  have HSZ : Hid (w.heap.size < w0.heap.size ∧ w0.heap.size < w1.heap.size) := Lib.hid ⟨HL0.out, HL1.out⟩
  clear d0 d1 d2 d3 d4 d5 HCL ho2 hb2 hn2 HX1 HZ0 HB01 HX0
  obtain ⟨d0, d1, d2, d3, d4, d5⟩ := bx6 HX2.out
  have f5 := frozen_of_row w2 w0.heap.size 5 _ _ HX2.out
  have HX3 : Hid ((w2.setCell ⟨w0.heap.size, 5, none⟩ (.slice A2 32 c2)).heap[w0.heap.size]? = some (.cells #[.int .u32 (s : Int), .int .u32 (v : Int), .int .i64 (n : Int), .int .i64 (zz : Int), .int .i64 (p : Int), .slice A2 32 c2] 32 (0, 0))) := Lib.hid (heap_setCell_same w2 w0.heap.size 5 _ _ _ HX2.out)
  have HZ3 : Hid ((w2.setCell ⟨w0.heap.size, 5, none⟩ (.slice A2 32 c2)).heap[w.heap.size]? = some (.cells #[.int .u32 0, .int .u32 0, .int .i64 0, .int .i64 0, .int .i64 0, .slice none 0 0] 32 (0, 0))) := Lib.hid ((heap_setCell_other w2 ⟨w0.heap.size, 5, none⟩ w.heap.size _ (by have := HSZ.out; show w.heap.size ≠ w0.heap.size; omega)).trans HZ2.out)
  have HB3 : Hid (Below w.heap.size w (w2.setCell ⟨w0.heap.size, 5, none⟩ (.slice A2 32 c2))) := Lib.hid (HB2.out.setCell (by have := HSZ.out; show w.heap.size ≤ w0.heap.size; omega) _)
  have HR3 : Hid (RowP (w2.setCell ⟨w0.heap.size, 5, none⟩ (.slice A2 32 c2)) (fun b => b ≠ w.heap.size) A2 32 (bv hash)) := Lib.hid ((HR2.out.keep (w' := w2.setCell ⟨w0.heap.size, 5, none⟩ (.slice A2 32 c2)) (by simp) (fun b hb _ => heap_setCell_other w2 ⟨w0.heap.size, 5, none⟩ b _ (by have := HSZ.out; show b ≠ w0.heap.size; omega))).imp fun b _ hb => by have := HSZ.out; omega)
  go_upto_region 5 with fail
  clear d0 d1 d2 d3 d4 d5 f5
  generalize (w2.setCell ⟨w0.heap.size, 5, none⟩ (.slice A2 32 c2)) = w3 at *
  obtain ⟨d0, d1, d2, d3, d4, d5⟩ := bx6 HX3.out
  obtain ⟨y0, y1, y2, y3, y4, y5⟩ := bx6 HZ3.out
  have f0 := frozen_of_row w3 w.heap.size 0 _ _ HZ3.out
  have f1 := frozen_of_row w3 w.heap.size 1 _ _ HZ3.out
  have f2 := frozen_of_row w3 w.heap.size 2 _ _ HZ3.out
  have f3 := frozen_of_row w3 w.heap.size 3 _ _ HZ3.out
  have f4 := frozen_of_row w3 w.heap.size 4 _ _ HZ3.out
  have f5 := frozen_of_row w3 w.heap.size 5 _ _ HZ3.out
  have hrow := set6h HZ3.out (.int .u32 (s : Int)) (.int .u32 (v : Int)) (.int .i64 (n : Int)) (.int .i64 (zz : Int)) (.int .i64 (p : Int)) (.slice A2 32 c2)
  have HRW := Lib.hid hrow
  have HE1 := Lib.hid (set6_row HR3.out (set6_size (g := w.heap.size) (.int .u32 (s : Int)) (.int .u32 (v : Int)) (.int .i64 (n : Int)) (.int .i64 (zz : Int)) (.int .i64 (p : Int)) (.slice A2 32 c2)) (fun b hb => set6_rest (.int .u32 (s : Int)) (.int .u32 (v : Int)) (.int .i64 (n : Int)) (.int .i64 (zz : Int)) (.int .i64 (p : Int)) (.slice A2 32 c2) hb))
  have HE2 := Lib.hid (set6_below HB3.out (Nat.le_refl _) (.int .u32 (s : Int)) (.int .u32 (v : Int)) (.int .i64 (n : Int)) (.int .i64 (zz : Int)) (.int .i64 (p : Int)) (.slice A2 32 c2))
  clear hrow
  go_wp2_with fail
  refine bodyPost_ret (Cd.results_cell_one rfl _ _ w.heap.size _ _ (0, 0) _ rfl HRW.out Tryz.underlying32 rfl (by kernel_rfl)) rfl ?_
  exact ⟨A2, c2, rfl, HE1, HE2⟩
end Go.Proofs.YtidcnoejihjgjaaGreatDoor.Car
