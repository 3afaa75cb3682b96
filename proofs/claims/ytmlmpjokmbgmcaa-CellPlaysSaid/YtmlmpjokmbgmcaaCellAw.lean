/- awake of layer 17. -/
import Derived.Test.YtmlmpjokmbgmcaaCellCur
import Derived.Test.YtmlmpjokmbgmcaaLawRows
namespace Go.Proofs.Ytmlmpjokmbgmcaa
open Go.RowKit
theorem below_done {w w1 w2 : World} {g B : Nat} {f : Fl} (h : Below B w w1) (hd : Done g f w1 w2) (hB : B ≤ w1.heap.size) (hg : B ≤ g) : Below B w w2 :=
  h.grown hd.2 hB (by intro q e; injection e with e; omega)
set_option maxRecDepth 100000 in
set_option maxHeartbeats 1600000 in
theorem awake17_any (w : World) : Calls Try.prog 16 #[] w fun e w' => e = .returned (.bool true) ∧ Below w.heap.size w w' := by
  have kc := fun (w : World) (C : Array Value) (n c : Nat) => Lib.run_convert_bytes_const (P := Try.prog) w 27 5 C n c Try.underlying27 Try.underlying5
  go_enter Try.func16, Try.ntmps16
  go_wp2_with fail
  refine (new_any 10 w ⟨by omega, by omega⟩).mono ?_
  rintro e w1 ⟨g, rfl, hg, hf, hb⟩
  have HV := Lib.hid (new_void 10)
  have HOK := Lib.hid (new_ok 10 (by decide))
  have HQ : Hid (((flNew 10).fill 0 3584).down = false ∧ ((flNew 10).fill 0 3584).there = false ∧ ((flNew 10).fill 0 3584).wear = 10 ∧ ∀ s, ((flNew 10).fill 0 3584).er s = 0) := ⟨rfl, rfl, rfl, fun _ => rfl⟩
  generalize (flNew 10).fill 0 3584 = f0 at *
  have HB1 : Hid (Below w.heap.size w w1) := hb
  have HF1 : Hid (FlAt w1 g f0) := hf
  clear hb hf
  go_wp2_with fail
  refine (cread_none g f0 w1 HF1.out HQ.out.1 HV.out.no.1 HV.out.no.2).mono ?_
  rintro e w2 ⟨rfl, hb2⟩
  have HB2 : Hid (Below w.heap.size w w2) := HB1.out.trans (hb2.out.mono HB1.out.size)
  have HF2 : Hid (FlAt w2 g f0) := HF1.out.below hb2.out
  have hgl := HF2.out.lt
  have HF3 : Hid (FlAt (w2.alloc (.cells #[.int .u8 97] 5 (1, 2))) g f0) := HF2.out.below ((Below.refl _ _).alloc (Nat.le_refl _) _)
  have HB3 : Hid (Below w.heap.size w (w2.alloc (.cells #[.int .u8 97] 5 (1, 2)))) := HB2.out.alloc HB2.out.size _
  have HR3 : Hid (Row (w2.alloc (.cells #[.int .u8 97] 5 (1, 2))) (w2.heap.size + 1) (some ⟨w2.heap.size, 0, none⟩) 1 (bv [97])) := row_new w2 #[.int .u8 97] 5 (1, 2)
  clear hb2 HF1 HB1 HF2 HB2
  go_wp2_with fail
  refine (cwrite_void (c := [97]) HF3.out HR3.out (by intro _ b o h; injection h with h; injection h with h; omega) (by simp) (by omega) HQ.out.1 HOK.out (by omega) HV.out (by rw [HQ.out.2.2.1, HQ.out.2.2.2]; decide) HQ.out.2.1).mono ?_
  rintro e w3 ⟨f1, rfl, hd, hw, hok⟩
  obtain ⟨hc, q1, q2, q3⟩ := hw.out.yes rfl
  have HC1 := Lib.hid hc
  have HQ1 : Hid (f1.down = false ∧ f1.there = false ∧ f1.er 1 < f1.wear) := ⟨q1.trans HQ.out.1, q3 HQ.out.2.1, by rw [hw.out.er, hw.out.wear, HQ.out.2.2.1]; unfold erUp; rw [if_neg (by omega), HQ.out.2.2.2]; decide⟩
  have hgl3 := hd.out.1.lt
  have HB4 : Hid (Below w.heap.size w w3) := below_done HB3.out hd.out HB3.out.size hg
  have HF5 : Hid (FlAt (w3.alloc (.cells #[.int .u8 98] 5 (1, 2))) g f1) := hd.out.1.below ((Below.refl _ _).alloc (Nat.le_refl _) _)
  have HB5 : Hid (Below w.heap.size w (w3.alloc (.cells #[.int .u8 98] 5 (1, 2)))) := HB4.out.alloc HB4.out.size _
  have HR5 : Hid (Row (w3.alloc (.cells #[.int .u8 98] 5 (1, 2))) (w3.heap.size + 1) (some ⟨w3.heap.size, 0, none⟩) 1 (bv [98])) := row_new w3 #[.int .u8 98] 5 (1, 2)
  clear hc q1 q2 q3 hd hw HF3 HB3 HR3 HB4 HQ HV hgl
  have HOK1 : Hid (f1.Ok (0 + 300)) := hok
  clear hok HOK
  go_wp2_with fail
  refine (cwrite_free (c := [98]) HF5.out HR5.out (by intro _ b o h; injection h with h; injection h with h; omega) (by simp) (by omega) HQ1.out.1 HOK1.out (by omega) HC1.out HQ1.out.2.2 (by omega) HQ1.out.2.1).mono ?_
  rintro e w4 ⟨f2, rfl, hd, hw, hok⟩
  obtain ⟨hc, q1, q2, q3⟩ := hw.out.yes rfl
  have HCR := Lib.hid (cread_any g f2 [98] w4 hd.out.1 (q1.trans HQ1.out.1) hc.has)
  have HB6 : Hid (Below w.heap.size w w4) := below_done HB5.out hd.out HB5.out.size hg
  clear hc q1 q2 q3 hd hw hok HF5 HB5 HR5
  go_wp2_with fail
  refine HCR.out.mono ?_
  rintro e w5 ⟨A, n, c, rfl, hn, hnc, hr, _, hb⟩
  obtain rfl : n = 1 := hn.out
  have hk := run_string_row (P := Try.prog) hr.out c 27 9 5 Try.underlying27 Try.underlying5 Try.underlying9
  have HB7 : Hid (Below w.heap.size w w5) := HB6.out.trans (hb.out.mono HB6.out.size)
  clear hr hn hnc hb HCR
  go_wp2_with fail
  go_ret
  exact ⟨rfl, HB7.out⟩
end Go.Proofs.Ytmlmpjokmbgmcaa
