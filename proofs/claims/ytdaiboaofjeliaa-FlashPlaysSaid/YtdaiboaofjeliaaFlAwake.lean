/- awake of layer 16. -/
import Derived.Test.YtdaiboaofjeliaaFlFree
namespace Go.Proofs.Ytdaiboaofjeliaa
open Go.RowKit
def fl0 (m : Int) : Fl := (flNew m).fill 0 3584
def lit1 (w : World) (cs : Array Value) : World := w.alloc (.cells cs 5)
theorem aw_read : ((((fl0 10).prog 0 [15]).1.prog 0 [240, 1]).1).sub 0 3 = [0, 1, 255] := by decide +kernel
set_option maxHeartbeats 800000 in
theorem awake16_any (w : World) : Calls Try.prog 5 #[] w fun e w' => e = .returned (.bool true) ∧ Below w.heap.size w w' := by
  go_enter Try.func5, Try.ntmps5
  go_wp2_with fail
  refine (new_any 10 w ⟨by omega, by omega⟩).mono ?_
  rintro e w1 ⟨g, rfl, hg, hf, hb⟩
  have hba : Below w1.heap.size w1 (w1.alloc (.cells #[.int .u8 15] 5)) := (Below.refl _ _).alloc (Nat.le_refl _) _
  have hgl := hf.out.lt
  have HF := Lib.hid (hf.out.below hba)
  have HR1 := Lib.hid (row_new w1 #[.int .u8 15] 5 (0, 0))
  have HB1 := Lib.hid (hb.out.trans (hba.mono hb.out.size))
  clear hf hba hb
  go_wp2_with fail
  refine (prog_at (a := 0) (n := 1) (l := [15]) (B := w1.heap.size + 1) 0 rfl HF.out HR1.out (by intro _ b o h; injection h with h; injection h with h; omega) (by simp) rfl (by omega) (by decide) (by decide) (by decide)).mono ?_
  rintro e w2 ⟨rfl, hd2⟩
  obtain ⟨f2, hf2⟩ : ∃ f2, (((flNew 10).fill 0 3584).prog 0 [15]).1 = f2 := ⟨_, rfl⟩
  rw [hf2] at hd2
  have hb2 : Below w.heap.size w w2 := HB1.out.grown hd2.out.2 HB1.out.size (by intro k h; injection h with h; omega)
  have hba : Below w2.heap.size w2 (w2.alloc (.cells #[.int .u8 240, .int .u8 1] 5)) := (Below.refl _ _).alloc (Nat.le_refl _) _
  have hgl2 := hd2.out.1.lt
  have HF2 := Lib.hid (hd2.out.1.below hba)
  have HR2 := Lib.hid (row_new w2 #[.int .u8 240, .int .u8 1] 5 (0, 0))
  have HB2 := Lib.hid (hb2.trans (hba.mono hb2.size))
  clear hd2 hba hb2 HF HR1 HB1
  go_wp2_with fail
  refine (prog_at (a := 0) (n := 2) (l := [240, 1]) (B := w2.heap.size + 1) 0 rfl HF2.out HR2.out (by intro _ b o h; injection h with h; injection h with h; omega) (by simp) (by rw [← hf2]; rfl) (by omega) (by rw [← hf2]; decide) (by rw [← hf2]; decide) (by rw [← hf2]; decide)).mono ?_
  rintro e w3 ⟨rfl, hd3⟩
  have hb3 : Below w.heap.size w w3 := HB2.out.grown hd3.out.2 HB2.out.size (by intro k h; injection h with h; omega)
  have HF3 := Lib.hid hd3.out.1
  have HB3 := Lib.hid hb3
  have hE3 : (f2.prog 0 [240, 1]).2 = 0 := by rw [← hf2]; rfl
  have hsub : Hid ((f2.prog 0 [240, 1]).1.sub 0 3 = [0, 1, 255]) := by show _ = _; rw [← hf2]; exact aw_read
  have hst : Hid ((f2.prog 0 [240, 1]).1.steps = 3) := by show _ = _; rw [← hf2]; rfl
  have hdn : Hid ((f2.prog 0 [240, 1]).1.down = false) := by show _ = _; rw [← hf2]; rfl
  rw [hE3]
  rw [show (((flNew 10).fill 0 3584).prog 0 [15]).2 = 0 from rfl]
  clear hd3 hb3 HF2 HR2 HB2 hf2 hE3
  generalize (f2.prog 0 [240, 1]).1 = f3 at *
  go_wp2_with fail
  refine (read_at (a := 0) (n := 3) 0 3 rfl rfl HF3.out hdn.out (by omega)).mono ?_
  rintro e w4 ⟨A4, n4, c4, rfl, hn4, hown, hb4⟩
  rw [hsub.out] at hn4 hown
  obtain rfl : n4 = 3 := hn4.out
  have hk := run_string_row (P := Try.prog) (Row.of_own hown.out) c4 29 9 5 Try.underlying29 Try.underlying5 Try.underlying9
  have HB4 : Hid (Below w.heap.size w w4) := HB3.out.trans (hb4.out.mono HB3.out.size)
  have HST := Lib.hid (steps_any g f3 w4 (HF3.out.below hb4.out))
  clear hown hn4 hb4 HF3
  go_wp2_with fail
  refine HST.out.mono ?_
  rw [hst.out]
  rintro e w5 ⟨rfl, rfl⟩
  go_wp2_with fail
  go_ret
  exact ⟨rfl, HB4.out⟩
end Go.Proofs.Ytdaiboaofjeliaa
