/- StoreNil's walk. -/
import Derived.Test.YtoblapnnpjgpnaaGreatDoorStoAwQ
import Derived.Test.YtoblapnnpjgpnaaGreatDoorLawWhCallQ
namespace Go.Proofs.YtoblapnnpjgpnaaGreatDoor.Sto
open Go.RowKit
open VecM RdM Vc Sp Pc El Cd Dc
set_option maxRecDepth 100000 in
set_option maxHeartbeats 3200000 in
theorem stonil_walk (y : WCall) (w : World) (ht : DTab w) : Calls Tryz.prog 3 #[.agg y.vals.toArray] w fun e w' => e = .returned (.bool true) ∧ Below w.heap.size w w' := by
  obtain ⟨yd, ys, ya, yn, yA, ym, yc, yl⟩ := y
  unfold WCall.vals
  obtain ⟨i0, hi, hz0, hz1, hz2⟩ := info_parts Tryz.info5
  have HT := Lib.hid ht
  clear ht
  obtain ⟨wa, hwa⟩ : ∃ wa, w.alloc (.cells #[.int .i64 yd, .int .i64 ys, .int .i64 ya, .int .u32 (yn : Int), .slice yA ym yc] 25) = wa := ⟨_, rfl⟩
  have HB0 : Hid (Below w.heap.size w wa) := by rw [← hwa]; exact (Below.refl _ _).alloc (Nat.le_refl _) _
  have hz : wa.heap[w.heap.size]? = some (.cells #[.int .i64 yd, .int .i64 ys, .int .i64 ya, .int .u32 (yn : Int), .slice yA ym yc] 25 (0, 0)) := by rw [← hwa]; exact heap_alloc_new _ _
  have HZ := Lib.hid hz
  have HWA := Lib.hid hwa
  obtain ⟨g0, hg0⟩ : ∃ g0, w.heap.size = g0 := ⟨_, rfl⟩
  have HG0 := Lib.hid hg0
  have HGL := Lib.hid ((Array.getElem?_eq_some_iff.1 hz).1)
  rw [hg0] at HZ HGL
  clear hz hwa hg0
  go_enter Tryz.func3, Tryz.ntmps3
  go_upto_region 2 with fail
  rw [HWA.out, HG0.out]
  clear HWA
  go_wp2_with fail
  refine (simage_nil wa).mono ?_
  rintro e w' ⟨rfl, rfl⟩
  go_wp2_with (at_make; refine wpList_make_full wa rfl _ _ 23 rfl wa.heap.size 5 i0 (.int .u8 0) 1 Tryz.underlying23 hi hz0 hz1 .i64 .i64 _ _ 32 rfl rfl rfl rfl (by rw [hz2]; omega) (by unfold maxLen; omega) (Nat.le_refl _) ?_; intro w2 hown2 hg2)
  have hb2 : Below wa.heap.size wa w2 := (Below.refl _ _).grown hg2 (Nat.le_refl _) (by intro g h; cases h)
  have HB2 := Lib.hid hb2
  clear hown2 hg2 hb2
  refine (small_any _ _ _ w2).mono ?_
  rintro e w3 ⟨rfl, hb3⟩
  have HB3 := Lib.hid (HB2.out.trans (hb3.out.mono HB2.out.size))
  clear hb3 HB2
  have HON := Lib.hid (fun n c A => opens_nil 1 1 2 3 2 1 2 n c A w3 cnt32 (by omega) (by omega) (by omega))
  go_wp2_with fail
  refine (HON.out _ _ _).mono ?_
  rintro e w4 ⟨rfl, hb4⟩
  have HB4 := Lib.hid (HB3.out.trans (hb4.out.mono HB3.out.size))
  clear hb4 HON HB3
  have hz3 := (HB4.out.block g0 HGL.out).trans HZ.out
  have c3 : w4.cell? ⟨g0, 3, none⟩ = some (.int .u32 (yn : Int)) := by rw [cell_of_row w4 g0 3 _ _ (0, 0) hz3]; rfl
  have c4 : w4.cell? ⟨g0, 4, none⟩ = some (.slice yA ym yc) := by rw [cell_of_row w4 g0 4 _ _ (0, 0) hz3]; rfl
  have HB5 : Hid (Below w.heap.size w w4) := Lib.hid (HB0.out.trans (HB4.out.mono HB0.out.size))
  clear hz3 HZ HB4
  go_wp2_with fail
  refine (put_nil yn ym yc yA w4).mono ?_
  rintro e w' ⟨rfl, rfl⟩
  go_wp2_with fail
  refine (kept_nil w4).mono ?_
  rintro e w' ⟨rfl, rfl⟩
  go_wp2_with fail
  refine (sneeds_nil w4).mono ?_
  rintro e w' ⟨rfl, rfl⟩
  go_wp2_with fail
  refine (awake23_any w4 (HT.out.grow HB5.out)).mono ?_
  rintro e w6 ⟨rfl, hb6⟩
  go_wp2_with fail
  go_ret
  exact ⟨rfl, HB5.out.trans (hb6.out.mono HB5.out.size)⟩
end Go.Proofs.YtoblapnnpjgpnaaGreatDoor.Sto
