/- FlashFuse: just so many steps are done whole; the next one is torn, and nothing behind it is done. For every input, no condition. -/
import Derived.Test.YtekaoodagaplmaaFlAwake
import Derived.Test.YtekaoodagaplmaaLaw
namespace Go.Proofs.Ytekaoodagaplmaa
open Go.ChangeShapes Go.WideShapes Go.ChangeAt Go.RowKit
def bsAll (bs : Nat → UInt8) (a : Nat) (l : List UInt8) : Nat → UInt8 := fun i => if a ≤ i ∧ i < a + l.length then bs i &&& l.getD (i - a) 0 else bs i
def bsTorn (bs : Nat → UInt8) (a n : Nat) (l : List UInt8) (tb : UInt8) : Nat → UInt8 := fun i => if a ≤ i ∧ i < a + n then bs i &&& l.getD (i - a) 0 else if i = a + n then bs i &&& (l.getD n 0 ||| tb) else bs i
theorem bsAll_nil (bs : Nat → UInt8) (a : Nat) : bsAll bs a [] = bs := by
  funext i
  have h : ¬ (a ≤ i ∧ i < a + ([] : List UInt8).length) := by simp only [List.length_nil]; omega
  unfold bsAll; rw [if_neg h]
theorem bsAll_cons (bs : Nat → UInt8) (a : Nat) (x : UInt8) (t : List UInt8) : bsAll (fun i => if i = a then bs a &&& x else bs i) (a + 1) t = bsAll bs a (x :: t) := by
  funext i
  unfold bsAll
  simp only [List.length_cons]
  by_cases h1 : a + 1 ≤ i ∧ i < a + 1 + t.length
  · have e1 : ¬ i = a := by omega
    have e2 : a ≤ i ∧ i < a + (t.length + 1) := by omega
    rw [if_pos h1, if_neg e1, if_pos e2]
    obtain ⟨j, rfl⟩ : ∃ j, i = a + 1 + j := ⟨i - (a + 1), by omega⟩
    rw [show a + 1 + j - (a + 1) = j by omega, show a + 1 + j - a = j + 1 by omega]; rfl
  · rw [if_neg h1]
    by_cases h2 : i = a
    · subst h2
      have e2 : i ≤ i ∧ i < i + (t.length + 1) := by omega
      rw [if_pos rfl, if_pos e2]
      simp
    · have e2 : ¬ (a ≤ i ∧ i < a + (t.length + 1)) := by omega
      rw [if_neg h2, if_neg e2]
theorem bsTorn_zero (bs : Nat → UInt8) (a : Nat) (x tb : UInt8) (t : List UInt8) : (fun i => if i = a then bs a &&& (x ||| tb) else bs i) = bsTorn bs a 0 (x :: t) tb := by
  funext i
  unfold bsTorn
  have e2 : ¬ (a ≤ i ∧ i < a + 0) := by omega
  rw [if_neg e2]
  by_cases h : i = a
  · subst h; rw [if_pos rfl, if_pos (by omega)]; rfl
  · rw [if_neg h, if_neg (by omega)]
theorem bsTorn_cons (bs : Nat → UInt8) (a n : Nat) (x tb : UInt8) (t : List UInt8) : bsTorn (fun i => if i = a then bs a &&& x else bs i) (a + 1) n t tb = bsTorn bs a (n + 1) (x :: t) tb := by
  funext i
  unfold bsTorn
  dsimp only
  by_cases h1 : a + 1 ≤ i ∧ i < a + 1 + n
  · have e1 : ¬ i = a := by omega
    have e2 : a ≤ i ∧ i < a + (n + 1) := by omega
    rw [if_pos h1, if_neg e1, if_pos e2]
    obtain ⟨j, rfl⟩ : ∃ j, i = a + 1 + j := ⟨i - (a + 1), by omega⟩
    rw [show a + 1 + j - (a + 1) = j by omega, show a + 1 + j - a = j + 1 by omega]; rfl
  · rw [if_neg h1]
    by_cases h2 : i = a
    · subst h2
      have e2 : i ≤ i ∧ i < i + (n + 1) := by omega
      rw [if_neg (by omega), if_pos rfl, if_pos e2]
      simp
    · have e2 : ¬ (a ≤ i ∧ i < a + (n + 1)) := by omega
      rw [if_neg e2]
      by_cases h3 : i = a + 1 + n
      · subst h3
        rw [if_pos rfl, if_neg h2, if_pos (by omega)]; rfl
      · rw [if_neg h3, if_neg h2, if_neg (by omega)]
theorem fuse_whole (l : List UInt8) : ∀ (f : Fl) (a n : Nat), f.there = true → f.left = n → l.length ≤ n → ∃ f', f.prog a l = (f', 0) ∧ f'.bs = bsAll f.bs a l ∧ f'.steps = f.steps + l.length ∧ f'.down = f.down := by
  induction l with
  | nil => intro f a n _ _ _; exact ⟨f, rfl, (bsAll_nil _ _).symm, by simp, rfl⟩
  | cons x t ih =>
    intro f a n h hl hn
    simp only [List.length_cons] at hn
    have hs : f.stepB = true := by unfold Fl.stepB; rw [h, hl, if_pos rfl, decide_eq_true_eq]; omega
    have hf : f.stepF = { f.tick with left := f.left - 1 } := by unfold Fl.stepF; rw [if_pos h, if_pos (by omega)]
    obtain ⟨f', e, h1, h2, h3⟩ := ih (f.stepF.put a x) (a + 1) (n - 1) (by rw [hf]; exact h) (by rw [hf]; show f.left - 1 = _; omega) (by omega)
    refine ⟨f', ?_, ?_, ?_, ?_⟩
    · show (if f.stepB then _ else _) = _
      rw [if_pos hs]; exact e
    · rw [h1, ← bsAll_cons, hf]; rfl
    · rw [h2, hf]; show f.steps + 1 + _ = _; simp only [List.length_cons]; push_cast; omega
    · rw [h3, hf]; rfl
theorem fuse_torn (l : List UInt8) : ∀ (f : Fl) (a n : Nat), f.there = true → f.left = n → n < l.length → ∃ f', f.prog a l = (f', 11) ∧ f'.bs = bsTorn f.bs a n l (UInt8.ofNat (f.torn % 256).toNat) ∧ f'.steps = f.steps + n + 1 ∧ f'.there = false ∧ f'.left = 0 := by
  induction l with
  | nil => intro f a n _ _ h; simp at h
  | cons x t ih =>
    intro f a n h hl hn
    cases n with
    | zero =>
      have hs : f.stepB = false := by unfold Fl.stepB; rw [h, hl]; rfl
      have hf : f.stepF = { f.tick with there := false, down := true } := by unfold Fl.stepF; rw [if_pos h, if_neg (by omega)]
      refine ⟨f.stepF.put a (x ||| UInt8.ofNat (f.torn % 256).toNat), ?_, ?_, ?_, ?_, ?_⟩
      · show (if f.stepB then _ else _) = _
        rw [if_neg (by rw [hs]; decide)]
      · rw [← bsTorn_zero, hf]; rfl
      · rw [hf]; show f.steps + 1 = f.steps + ((0 : Nat) : Int) + 1; omega
      · rw [hf]; rfl
      · rw [hf]; exact hl
    | succ m =>
      simp only [List.length_cons] at hn
      have hs : f.stepB = true := by unfold Fl.stepB; rw [h, hl, if_pos rfl, decide_eq_true_eq]; omega
      have hf : f.stepF = { f.tick with left := f.left - 1 } := by unfold Fl.stepF; rw [if_pos h, if_pos (by omega)]
      obtain ⟨f', e, h1, h2, h3, h4⟩ := ih (f.stepF.put a x) (a + 1) m (by rw [hf]; exact h) (by rw [hf]; show f.left - 1 = _; omega) (by omega)
      refine ⟨f', ?_, ?_, ?_, h3, h4⟩
      · show (if f.stepB then _ else _) = _
        rw [if_pos hs]; exact e
      · rw [h1, ← bsTorn_cons, hf]; rfl
      · rw [h2, hf]; show f.steps + 1 + _ + 1 = _; push_cast; omega
theorem u8_ff (x : UInt8) : (255 : UInt8) &&& x = x := by
  apply UInt8.toNat.inj
  rw [UInt8.toNat_and]
  have h := CrcM.b_lt x
  show 255 &&& x.toNat = x.toNat
  rw [Nat.and_comm, show (255 : Nat) = 2 ^ 8 - 1 from rfl, Nat.and_two_pow_sub_one_eq_mod]
  omega
theorem sub_all {f : Fl} {bs : Nat → UInt8} {a : Nat} {l : List UInt8} (hb : ∀ i, i < 3584 → bs i = 255) (h : f.bs = bsAll bs a l) (ha : a + l.length ≤ 3584) : f.sub a l.length = l := by
  apply List.ext_getElem
  · rw [Fl.sub_length]
  · intro i h1 h2
    simp only [Fl.sub, List.getElem_map, List.getElem_range]
    rw [h]
    unfold bsAll
    rw [if_pos (by omega), hb _ (by omega), u8_ff, Nat.add_sub_cancel_left]
    simp [List.getD, h2]
theorem sub_torn {f : Fl} {bs : Nat → UInt8} {a n : Nat} {tb : UInt8} {l : List UInt8} (hb : ∀ i, i < 3584 → bs i = 255) (h : f.bs = bsTorn bs a n l tb) (ha : a + l.length ≤ 3584) (i : Nat) (hi : i < l.length) :
    f.bs (a + i) = if i < n then l[i] else if i = n then l[i] ||| tb else 255 := by
  rw [h]
  unfold bsTorn
  by_cases h1 : i < n
  · rw [if_pos (by omega), if_pos h1, hb _ (by omega), u8_ff, Nat.add_sub_cancel_left]
    simp [List.getD, hi]
  · rw [if_neg (by omega), if_neg h1]
    by_cases h2 : i = n
    · subst h2
      rw [if_pos rfl, if_pos rfl, hb _ (by omega), u8_ff]
      simp [List.getD, hi]
    · rw [if_neg (by omega), if_neg h2, hb _ (by omega)]
end Go.Proofs.Ytekaoodagaplmaa
