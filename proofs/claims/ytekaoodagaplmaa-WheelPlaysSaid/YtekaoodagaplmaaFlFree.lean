/- Flash without a fuse; calls with numbers as they stand. -/
import Derived.Test.YtekaoodagaplmaaFlErase
namespace Go.Proofs.Ytekaoodagaplmaa
open Go.RowKit
def Fl.putAll (f : Fl) (a : Nat) (l : List UInt8) : Fl :=
  { f with bs := fun i => if a ≤ i ∧ i < a + l.length then f.bs i &&& l.getD (i - a) 0 else f.bs i, steps := f.steps + l.length }
theorem Fl.prog_free (l : List UInt8) : ∀ (f : Fl) (a : Nat), f.there = false → f.prog a l = (f.putAll a l, 0) := by
  induction l with
  | nil =>
    intro f a _
    show (f, (0 : Int)) = _
    congr 1
    unfold Fl.putAll
    cases f
    congr 1
    · funext i
      have h : ¬ (a ≤ i ∧ i < a + ([] : List UInt8).length) := by simp only [List.length_nil]; omega
      rw [if_neg h]
    · simp
  | cons x t ih =>
    intro f a h
    show (if f.stepB then _ else _) = _
    have hs : f.stepB = true := by unfold Fl.stepB; rw [h]; rfl
    have hf : f.stepF = f.tick := by unfold Fl.stepF; rw [if_neg (by rw [h]; decide)]
    rw [if_pos hs, hf, ih _ _ (by exact h)]
    congr 1
    unfold Fl.putAll Fl.put Fl.tick
    congr 1
    · funext i
      simp only [List.length_cons]
      by_cases h1 : a + 1 ≤ i ∧ i < a + 1 + t.length
      · have e1 : ¬ i = a := by omega
        have e2 : a ≤ i ∧ i < a + (t.length + 1) := by omega
        rw [if_pos h1, if_neg e1, if_pos e2]
        obtain ⟨j, rfl⟩ : ∃ j, i = a + 1 + j := ⟨i - (a + 1), by omega⟩
        rw [show a + 1 + j - (a + 1) = j by omega, show a + 1 + j - a = j + 1 by omega]; rfl
      · rw [if_neg h1]
        by_cases h2 : i = a
        · subst h2
          have e2 : i ≤ i ∧ i < i + (t.length + 1) := by omega
          rw [if_pos rfl, if_pos e2]
          simp
        · have e2 : ¬ (a ≤ i ∧ i < a + (t.length + 1)) := by omega
          rw [if_neg h2, if_neg e2]
    · simp only [List.length_cons]; push_cast; omega
section
variable {g a n B cap : Nat} {A : Option Addr} {l : List UInt8} {f : Fl} {w : World}
theorem prog_at (ai : Int) (hai : ai = (a : Int)) (hf : FlAt w g f) (hl : Row w B A n (bv l)) (hA : 0 < n → ∀ b o, A = some ⟨b, o, none⟩ → b ≠ g) (hB : B ≤ w.heap.size) (hd : f.down = false) (ha : a + n ≤ 3584)
    (h0 : -9223372036854775808 ≤ f.steps) (h1 : f.steps ≤ 9223372036854770000) (hle : -9223372036854775808 ≤ f.left ∧ f.left ≤ 9223372036854775807) :
    Calls Try.prog 51 #[.pointer (some ⟨g, 0, none⟩), .int .i64 ai, .slice A n cap] w (ProgOk g (f.prog a l) w) := by
  subst hai; exact prog_ok g a B n cap A l f w hf hl hA hB hd ha h0 h1 hle
theorem read_at (ai ni : Int) (hai : ai = (a : Int)) (hni : ni = (n : Int)) (hf : FlAt w g f) (hd : f.down = false) (h : a + n ≤ 3584) :
    Calls Try.prog 22 #[.pointer (some ⟨g, 0, none⟩), .int .i64 ai, .int .i64 ni] w (ReadOk (f.sub a n) w) := by
  subst hai hni; exact read_ok g a n f w hf hd h
theorem blank_at (ai ni : Int) (hai : ai = (a : Int)) (hni : ni = (n : Int)) (hf : FlAt w g f) (hd : f.down = false) (h : a + n ≤ 3584) :
    Calls Try.prog 47 #[.pointer (some ⟨g, 0, none⟩), .int .i64 ai, .int .i64 ni] w fun e w' => e = .returned (.bool (allFF (f.sub a n))) ∧ Hid (Below w.heap.size w w') := by
  subst hai hni; exact blank_ok g a n f w hf hd h
end
end Go.Proofs.Ytekaoodagaplmaa
