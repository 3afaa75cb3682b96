/- Flash: what Program and Erase make of it, by cases. -/
import Derived.Test.YtekaoodagaplmaaFlChange
import Derived.Test.YtekaoodagaplmaaFlashFuse
namespace Go.Proofs.Ytekaoodagaplmaa
open Go.RowKit
theorem Fl.prog_append (m : List UInt8) : ∀ (l : List UInt8) (f : Fl) (a : Nat), f.prog a (l ++ m) = if (f.prog a l).2 = 0 then (f.prog a l).1.prog (a + l.length) m else f.prog a l
  | [], f, a => by simp [Fl.prog]
  | x :: l, f, a => by
    cases hs : f.stepB with
    | true =>
      have e : ∀ t, f.prog a (x :: t) = (f.stepF.put a x).prog (a + 1) t := fun t => by
        show (if f.stepB then _ else _) = _
        rw [if_pos hs]
      rw [List.cons_append, e, e, Fl.prog_append m l, List.length_cons, show a + 1 + l.length = a + (l.length + 1) by omega]
    | false =>
      have e : ∀ t, f.prog a (x :: t) = (f.stepF.put a (x ||| UInt8.ofNat (f.torn % 256).toNat), 11) := fun t => by
        show (if f.stepB then _ else _) = _
        rw [if_neg (by rw [hs]; decide)]
      rw [List.cons_append, e, e, if_neg (show ¬ (11 : Int) = 0 by decide)]
/-- what stays in any step -/
structure Kept (f f' : Fl) : Prop where
  er : f'.er = f.er
  wear : f'.wear = f.wear
theorem prog_cases (l : List UInt8) : ∀ (f : Fl) (a : Nat),
    (∃ f', f.prog a l = (f', 0) ∧ f'.bs = bsAll f.bs a l ∧ Kept f f' ∧ f'.steps = f.steps + l.length ∧ f'.down = f.down ∧ (f.there = false → f'.there = false)) ∨
    (f.there = true ∧ ∃ f' k tb, k < l.length ∧ f.prog a l = (f', 11) ∧ f'.bs = bsTorn f.bs a k l tb ∧ Kept f f' ∧ f'.down = true ∧ f'.there = false) := by
  induction l with
  | nil => intro f a; exact .inl ⟨f, rfl, (bsAll_nil _ _).symm, ⟨rfl, rfl⟩, by simp, rfl, fun h => h⟩
  | cons x t ih =>
    intro f a
    cases hs : f.stepB with
    | true =>
      have e : f.prog a (x :: t) = (f.stepF.put a x).prog (a + 1) t := by
        show (if f.stepB then _ else _) = _
        rw [if_pos hs]
      have hbs : (f.stepF.put a x).bs = fun i => if i = a then f.bs a &&& x else f.bs i := by
        show (fun i => if i = a then f.stepF.bs a &&& x else f.stepF.bs i) = _
        rw [Fl.stepF_bs]
      have hd : (f.stepF.put a x).down = f.down := by
        show f.stepF.down = _
        unfold Fl.stepF
        unfold Fl.stepB at hs
        split
        · rename_i h
          rw [if_pos h] at hs
          rw [if_pos (by simpa using hs)]; rfl
        · rfl
      have ht : f.there = false → (f.stepF.put a x).there = false := by
        intro h
        show f.stepF.there = _
        unfold Fl.stepF
        rw [if_neg (by rw [h]; decide)]; exact h
      have hk : Kept f (f.stepF.put a x) := ⟨Fl.stepF_er f, Fl.stepF_wear f⟩
      have hst : (f.stepF.put a x).steps = f.steps + 1 := Fl.stepF_steps f
      rcases ih (f.stepF.put a x) (a + 1) with ⟨f', h1, h2, h3, h4, h5, h6⟩ | ⟨h0, f', k, tb, hkl, h1, h2, h3, h4, h5⟩
      · left
        refine ⟨f', e.trans h1, ?_, ⟨h3.er.trans hk.er, h3.wear.trans hk.wear⟩, ?_, h5.trans hd, fun h => h6 (ht h)⟩
        · rw [h2, hbs, bsAll_cons]
        · rw [h4, hst, List.length_cons]; push_cast; omega
      · right
        refine ⟨?_, f', k + 1, tb, by simp only [List.length_cons]; omega, e.trans h1, ?_, ⟨h3.er.trans hk.er, h3.wear.trans hk.wear⟩, h4, h5⟩
        · cases h : f.there with
          | true => rfl
          | false => rw [ht h] at h0; cases h0
        · rw [h2, hbs, bsTorn_cons]
    | false =>
      right
      have e : f.prog a (x :: t) = (f.stepF.put a (x ||| UInt8.ofNat (f.torn % 256).toNat), 11) := by
        show (if f.stepB then _ else _) = _
        rw [if_neg (by rw [hs]; decide)]
      have h0 : f.there = true := by
        unfold Fl.stepB at hs
        cases h : f.there with
        | true => rfl
        | false => rw [if_neg (by rw [h]; decide)] at hs; cases hs
      have hsf : f.stepF = { f.tick with there := false, down := true } := by
        unfold Fl.stepB at hs
        rw [if_pos h0] at hs
        unfold Fl.stepF
        rw [if_pos h0, if_neg (by simpa using hs)]
      refine ⟨h0, _, 0, UInt8.ofNat (f.torn % 256).toNat, by simp, e, ?_, ⟨Fl.stepF_er f, Fl.stepF_wear f⟩, ?_, ?_⟩
      · rw [← bsTorn_zero]
        show (fun i => if i = a then f.stepF.bs a &&& _ else f.stepF.bs i) = _
        rw [Fl.stepF_bs]
      · show f.stepF.down = true; rw [hsf]
      · show f.stepF.there = false; rw [hsf]
def erUp (e : Nat → Int) (s : Nat) : Nat → Int := fun i => if i = s then e s + 1 else e i
theorem erase_cases (f : Fl) (s : Nat) (hw : f.er s < f.wear) :
    (∃ f', f.erase s = (f', 0) ∧ f'.bs = (fun i => if 256 * s ≤ i ∧ i < 256 * s + 256 then 255 else f.bs i) ∧ f'.er = erUp f.er s ∧ f'.wear = f.wear ∧ f'.steps = f.steps + 1 ∧ f'.down = f.down ∧ (f.there = false → f'.there = false)) ∨
    (f.there = true ∧ ∃ f' t, t ≤ 256 ∧ f.erase s = (f', 11) ∧ f'.bs = (fun i => if 256 * s ≤ i ∧ i < 256 * s + t then 255 else f.bs i) ∧ f'.er = erUp f.er s ∧ f'.wear = f.wear ∧ f'.down = true ∧ f'.there = false) := by
  have hb : (f.wearUp s).stepF.bs = f.bs := by rw [Fl.stepF_bs]; rfl
  have he : (f.wearUp s).stepF.er = erUp f.er s := by rw [Fl.stepF_er]; rfl
  have hww : (f.wearUp s).stepF.wear = f.wear := by rw [Fl.stepF_wear]; rfl
  have hfill : ∀ n, ((f.wearUp s).stepF.fill (256 * s) n).bs = (fun i => if 256 * s ≤ i ∧ i < 256 * s + n then 255 else f.bs i) := by
    intro n
    show (fun i => if 256 * s ≤ i ∧ i < 256 * s + n then 255 else (f.wearUp s).stepF.bs i) = _
    rw [hb]
  cases hs : (f.wearUp s).stepB with
  | true =>
    left
    refine ⟨(f.wearUp s).stepF.fill (256 * s) 256, ?_, hfill 256, he, hww, ?_, ?_, ?_⟩
    · unfold Fl.erase; rw [if_neg (by omega), if_pos hs]
    · show (f.wearUp s).stepF.steps = _; rw [Fl.stepF_steps]; rfl
    · show (f.wearUp s).stepF.down = f.down
      unfold Fl.stepF
      unfold Fl.stepB at hs
      split
      · rename_i h
        rw [if_pos h] at hs
        rw [if_pos (by simpa using hs)]; rfl
      · rfl
    · intro h
      show (f.wearUp s).stepF.there = false
      unfold Fl.stepF
      rw [if_neg (by show ¬ f.there = true; rw [h]; decide)]; exact h
  | false =>
    right
    have h0 : f.there = true := by
      unfold Fl.stepB at hs
      cases h : f.there with
      | true => rfl
      | false => rw [if_neg (by show ¬ f.there = true; rw [h]; decide)] at hs; cases hs
    have hsf : (f.wearUp s).stepF = { (f.wearUp s).tick with there := false, down := true } := by
      unfold Fl.stepB at hs
      rw [if_pos (show (f.wearUp s).there = true from h0)] at hs
      unfold Fl.stepF
      rw [if_pos (show (f.wearUp s).there = true from h0), if_neg (by simpa using hs)]
    refine ⟨h0, (f.wearUp s).stepF.fill (256 * s) f.tornN, f.tornN, f.tornN_le, ?_, hfill _, he, hww, ?_, ?_⟩
    · unfold Fl.erase; rw [if_neg (by omega), if_neg (by rw [hs]; decide)]
    · show (f.wearUp s).stepF.down = true; rw [hsf]
    · show (f.wearUp s).stepF.there = false; rw [hsf]
theorem erase_down_same (f : Fl) (s : Nat) (h : (f.erase s).2 = 0) : (f.erase s).1.down = f.down := by
  by_cases hw : f.er s < f.wear
  · rcases erase_cases f s hw with ⟨f', e, _, _, _, _, d, _⟩ | ⟨_, f', t, _, e, _⟩
    · rw [e]; exact d
    · rw [e] at h; cases h
  · have e : f.erase s = (f, 10) := by unfold Fl.erase; rw [if_pos (by omega)]
    rw [e]
theorem prog_down_same (f : Fl) (a : Nat) (l : List UInt8) (h : (f.prog a l).2 = 0) : (f.prog a l).1.down = f.down := by
  rcases prog_cases l f a with ⟨f', e, _, _, _, d, _⟩ | ⟨_, f', k, tb, _, e, _⟩
  · rw [e]; exact d
  · rw [e] at h; cases h
theorem grown_of_below {w w1 w2 : World} {r : Option Nat} (h : Below w.heap.size w w1) (h2 : w1.grownBy w2 r) : w.grownBy w2 r :=
  ⟨h2.os.trans h.os, h2.tape.trans h.tape, h2.output.trans h.output, Nat.le_trans h.size h2.size, fun j hj hr => (h2.block j (Nat.lt_of_lt_of_le hj h.size) hr).trans (h.block j hj)⟩
theorem grown_of_alloc (w : World) (o : Obj) (r : Option Nat) : w.grownBy (w.alloc o) r :=
  ⟨rfl, rfl, rfl, by simp, fun j hj _ => heap_alloc_old w o hj⟩
end Go.Proofs.Ytekaoodagaplmaa
