/- Flash without a fuse; awake of layer 16; calls with numbers as they stand. -/
import Derived.Test.YtnamiiofefbmmaaFlErase
namespace Go.Proofs.Ytnamiiofefbmmaa
open Go.RowKit
def Fl.putAll (f : Fl) (a : Nat) (l : List UInt8) : Fl :=
  { f with bs := fun i => if a ≤ i ∧ i < a + l.length then f.bs i &&& l.getD (i - a) 0 else f.bs i, steps := f.steps + l.length }
theorem Fl.prog_free (l : List UInt8) : ∀ (f : Fl) (a : Nat), f.there = false → f.prog a l = (f.putAll a l, 0) := by
  induction l with
  | nil =>
    intro f a _
    show (f, (0 : Int)) = _
    congr 1
    unfold Fl.putAll
    cases f
    congr 1
    · funext i
      have h : ¬ (a ≤ i ∧ i < a + ([] : List UInt8).length) := by simp only [List.length_nil]; omega
      rw [if_neg h]
    · simp
  | cons x t ih =>
    intro f a h
    show (if f.stepB then _ else _) = _
    have hs : f.stepB = true := by unfold Fl.stepB; rw [h]; rfl
    have hf : f.stepF = f.tick := by unfold Fl.stepF; rw [if_neg (by rw [h]; decide)]
    rw [if_pos hs, hf, ih _ _ (by exact h)]
    congr 1
    unfold Fl.putAll Fl.put Fl.tick
    congr 1
    · funext i
      simp only [List.length_cons]
      by_cases h1 : a + 1 ≤ i ∧ i < a + 1 + t.length
      · have e1 : ¬ i = a := by omega
        have e2 : a ≤ i ∧ i < a + (t.length + 1) := by omega
        rw [if_pos h1, if_neg e1, if_pos e2]
        obtain ⟨j, rfl⟩ : ∃ j, i = a + 1 + j := ⟨i - (a + 1), by omega⟩
        rw [show a + 1 + j - (a + 1) = j by omega, show a + 1 + j - a = j + 1 by omega]; rfl
      · rw [if_neg h1]
        by_cases h2 : i = a
        · subst h2
          have e2 : i ≤ i ∧ i < i + (t.length + 1) := by omega
          rw [if_pos rfl, if_pos e2]
          simp
        · have e2 : ¬ (a ≤ i ∧ i < a + (t.length + 1)) := by omega
          rw [if_neg h2, if_neg e2]
    · simp only [List.length_cons]; push_cast; omega
section
variable {g a n B cap : Nat} {A : Option Addr} {l : List UInt8} {f : Fl} {w : World}
theorem prog_at (ai : Int) (hai : ai = (a : Int)) (hf : FlAt w g f) (hl : Row w B A n (bv l)) (hA : 0 < n → ∀ b o, A = some ⟨b, o, none⟩ → b ≠ g) (hB : B ≤ w.heap.size) (hd : f.down = false) (ha : a + n ≤ 3584)
    (h0 : -9223372036854775808 ≤ f.steps) (h1 : f.steps ≤ 9223372036854770000) (hle : -9223372036854775808 ≤ f.left ∧ f.left ≤ 9223372036854775807) :
    Calls Try.prog 16 #[.pointer (some ⟨g, 0, none⟩), .int .i64 ai, .slice A n cap] w (ProgOk g (f.prog a l) w) := by
  subst hai; exact prog_ok g a B n cap A l f w hf hl hA hB hd ha h0 h1 hle
theorem read_at (ai ni : Int) (hai : ai = (a : Int)) (hni : ni = (n : Int)) (hf : FlAt w g f) (hd : f.down = false) (h : a + n ≤ 3584) :
    Calls Try.prog 14 #[.pointer (some ⟨g, 0, none⟩), .int .i64 ai, .int .i64 ni] w (ReadOk (f.sub a n) w) := by
  subst hai hni; exact read_ok g a n f w hf hd h
theorem blank_at (ai ni : Int) (hai : ai = (a : Int)) (hni : ni = (n : Int)) (hf : FlAt w g f) (hd : f.down = false) (h : a + n ≤ 3584) :
    Calls Try.prog 20 #[.pointer (some ⟨g, 0, none⟩), .int .i64 ai, .int .i64 ni] w fun e w' => e = .returned (.bool (allFF (f.sub a n))) ∧ Hid (Below w.heap.size w w') := by
  subst hai hni; exact blank_ok g a n f w hf hd h
end
def fl0 (m : Int) : Fl := (flNew m).fill 0 3584
def lit1 (w : World) (cs : Array Value) : World := w.alloc (.cells cs 5)
theorem aw_read : ((((fl0 10).prog 0 [15]).1.prog 0 [240, 1]).1).sub 0 3 = [0, 1, 255] := by decide +kernel
set_option maxHeartbeats 800000 in
theorem awake16_any (w : World) : Calls Try.prog 11 #[] w fun e w' => e = .returned (.bool true) ∧ Below w.heap.size w w' := by
  go_enter Try.func11, Try.ntmps11
  go_wp2_with fail
  refine (new_any 10 w ⟨by omega, by omega⟩).mono ?_
  rintro e w1 ⟨g, rfl, hg, hf, hb⟩
  have hba : Below w1.heap.size w1 (w1.alloc (.cells #[.int .u8 15] 5)) := (Below.refl _ _).alloc (Nat.le_refl _) _
  have hgl := hf.out.lt
  have HF := Lib.hid (hf.out.below hba)
  have HR1 := Lib.hid (row_new w1 #[.int .u8 15] 5 (0, 0))
  have HB1 := Lib.hid (hb.out.trans (hba.mono hb.out.size))
  clear hf hba hb
  go_wp2_with fail
  refine (prog_at (a := 0) (n := 1) (l := [15]) (B := w1.heap.size + 1) 0 rfl HF.out HR1.out (by intro _ b o h; injection h with h; injection h with h; omega) (by simp) rfl (by omega) (by decide) (by decide) (by decide)).mono ?_
  rintro e w2 ⟨rfl, hd2⟩
  obtain ⟨f2, hf2⟩ : ∃ f2, (((flNew 10).fill 0 3584).prog 0 [15]).1 = f2 := ⟨_, rfl⟩
  rw [hf2] at hd2
  have hb2 : Below w.heap.size w w2 := HB1.out.grown hd2.out.2 HB1.out.size (by intro k h; injection h with h; omega)
  have hba : Below w2.heap.size w2 (w2.alloc (.cells #[.int .u8 240, .int .u8 1] 5)) := (Below.refl _ _).alloc (Nat.le_refl _) _
  have hgl2 := hd2.out.1.lt
  have HF2 := Lib.hid (hd2.out.1.below hba)
  have HR2 := Lib.hid (row_new w2 #[.int .u8 240, .int .u8 1] 5 (0, 0))
  have HB2 := Lib.hid (hb2.trans (hba.mono hb2.size))
  clear hd2 hba hb2 HF HR1 HB1
  go_wp2_with fail
  refine (prog_at (a := 0) (n := 2) (l := [240, 1]) (B := w2.heap.size + 1) 0 rfl HF2.out HR2.out (by intro _ b o h; injection h with h; injection h with h; omega) (by simp) (by rw [← hf2]; rfl) (by omega) (by rw [← hf2]; decide) (by rw [← hf2]; decide) (by rw [← hf2]; decide)).mono ?_
  rintro e w3 ⟨rfl, hd3⟩
  have hb3 : Below w.heap.size w w3 := HB2.out.grown hd3.out.2 HB2.out.size (by intro k h; injection h with h; omega)
  have HF3 := Lib.hid hd3.out.1
  have HB3 := Lib.hid hb3
  have hE3 : (f2.prog 0 [240, 1]).2 = 0 := by rw [← hf2]; rfl
  have hsub : Hid ((f2.prog 0 [240, 1]).1.sub 0 3 = [0, 1, 255]) := by show _ = _; rw [← hf2]; exact aw_read
  have hst : Hid ((f2.prog 0 [240, 1]).1.steps = 3) := by show _ = _; rw [← hf2]; rfl
  have hdn : Hid ((f2.prog 0 [240, 1]).1.down = false) := by show _ = _; rw [← hf2]; rfl
  rw [hE3]
  rw [show (((flNew 10).fill 0 3584).prog 0 [15]).2 = 0 from rfl]
  clear hd3 hb3 HF2 HR2 HB2 hf2 hE3
  generalize (f2.prog 0 [240, 1]).1 = f3 at *
  go_wp2_with fail
  refine (read_at (a := 0) (n := 3) 0 3 rfl rfl HF3.out hdn.out (by omega)).mono ?_
  rintro e w4 ⟨A4, n4, c4, rfl, hn4, hown, hb4⟩
  rw [hsub.out] at hn4 hown
  obtain rfl : n4 = 3 := hn4.out
  have hk := run_string_row (P := Try.prog) (Row.of_own hown.out) c4 29 9 5 Try.underlying29 Try.underlying5 Try.underlying9
  have HB4 : Hid (Below w.heap.size w w4) := HB3.out.trans (hb4.out.mono HB3.out.size)
  have HST := Lib.hid (steps_any g f3 w4 (HF3.out.below hb4.out))
  clear hown hn4 hb4 HF3
  go_wp2_with fail
  refine HST.out.mono ?_
  rw [hst.out]
  rintro e w5 ⟨rfl, rfl⟩
  go_wp2_with fail
  go_ret
  exact ⟨rfl, HB4.out⟩
end Go.Proofs.Ytnamiiofefbmmaa
