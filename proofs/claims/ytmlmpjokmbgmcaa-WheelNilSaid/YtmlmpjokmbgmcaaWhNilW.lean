/- WheelNil: the walk. -/
import Derived.Test.YtmlmpjokmbgmcaaWhFew
namespace Go.Proofs.Ytmlmpjokmbgmcaa
open Go.RowKit
set_option maxRecDepth 100000 in
set_option maxHeartbeats 3200000 in
theorem wnil_walk (y : WCall) (w : World) (hy : y.good w) : Calls Try.prog 9 #[.agg y.vals.toArray] w fun e w' => e = .returned (.bool true) ∧ Below w.heap.size w w' := by
  obtain ⟨yd, ys, ya, yn, yA, ym, yc, yl⟩ := y
  unfold WCall.vals
  clear hy
  obtain ⟨wa, hwa⟩ : ∃ wa, w.alloc (.cells #[.int .i64 yd, .int .i64 ys, .int .i64 ya, .int .u32 (yn : Int), .slice yA ym yc] 63) = wa := ⟨_, rfl⟩
  have HB0 : Hid (Below w.heap.size w wa) := by rw [← hwa]; exact (Below.refl _ _).alloc (Nat.le_refl _) _
  have hz : wa.heap[w.heap.size]? = some (.cells #[.int .i64 yd, .int .i64 ys, .int .i64 ya, .int .u32 (yn : Int), .slice yA ym yc] 63 (0, 0)) := by rw [← hwa]; exact heap_alloc_new _ _
  have HZ := Lib.hid hz
  have HWA := Lib.hid hwa
  obtain ⟨g0, hg0⟩ : ∃ g0, w.heap.size = g0 := ⟨_, rfl⟩
  have HG0 := Lib.hid hg0
  have HGL := Lib.hid ((Array.getElem?_eq_some_iff.1 hz).1)
  rw [hg0] at HZ HGL
  clear hz hwa hg0
  go_enter Try.func9, Try.ntmps9
  go_upto_region 2 with fail
  rw [HWA.out, HG0.out]
  clear HWA
  go_wp2_with fail
  refine (new_any 5 wa (by omega)).mono ?_
  rintro e w1 ⟨gf, rfl, hgf, hf, hb⟩
  generalize (flNew 5).fill 0 3584 = f0 at *
  have HF1 := Lib.hid hf.out
  have HB1 := Lib.hid hb.out
  clear hf hb
  go_wp2_with fail
  refine (cut_any gf f0 w1 HF1.out).mono ?_
  rintro e w2 ⟨rfl, hd2⟩
  have HF2 := Lib.hid hd2.out.1
  have HB2 : Hid (Below wa.heap.size wa w2) := HB1.out.grown hd2.out.2 HB1.out.size (by intro q h; injection h with h; omega)
  clear hd2 HF1 HB1
  go_wp2_with fail
  refine (open_arg none 1 4 w2 (.inl rfl)).mono ?_
  rintro e w' ⟨rfl, rfl⟩
  go_wp2_with fail
  refine (open_down gf 1 4 { f0 with down := true } w2 HF2.out rfl (by omega) (by omega)).mono ?_
  rintro e w3 ⟨rfl, hb3⟩
  have HB3 : Hid (Below wa.heap.size wa w3) := HB2.out.trans (hb3.out.mono HB2.out.size)
  clear hb3 HB2 HF2
  go_wp2_with fail
  refine (open_arg (some ⟨gf, 0, none⟩) 1 17 w3 (.inr (.inr (by omega)))).mono ?_
  rintro e w' ⟨rfl, rfl⟩
  have hz3 := (HB3.out.block g0 HGL.out).trans HZ.out
  have c3 : w3.cell? ⟨g0, 3, none⟩ = some (.int .u32 (yn : Int)) := by rw [cell_of_row w3 g0 3 _ _ (0, 0) hz3]; rfl
  have c4 : w3.cell? ⟨g0, 4, none⟩ = some (.slice yA ym yc) := by rw [cell_of_row w3 g0 4 _ _ (0, 0) hz3]; rfl
  have HB4 : Hid (Below w.heap.size w w3) := HB0.out.trans (HB3.out.mono HB0.out.size)
  clear hz3 HZ HB3
  go_wp2_with fail
  refine (add_nil yn ym yc yA w3).mono ?_
  rintro e w' ⟨rfl, rfl⟩
  go_wp2_with fail
  refine (recs_nil w3).mono ?_
  rintro e w' ⟨rfl, rfl⟩
  go_wp2_with fail
  refine (wroom_nil w3).mono ?_
  rintro e w' ⟨rfl, rfl⟩
  go_wp2_with fail
  refine (awake18_any w3).mono ?_
  rintro e w4 ⟨rfl, hb4⟩
  go_wp2_with fail
  go_ret
  exact ⟨rfl, HB4.out.trans (hb4.out.mono HB4.out.size)⟩
end Go.Proofs.Ytmlmpjokmbgmcaa
