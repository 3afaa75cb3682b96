/- Slot: a write without a fuse, erasures counted: mathematics. -/
import Derived.Test.YtgfdpondnkcogaaDoorSlM
namespace Go.Proofs.YtgfdpondnkcogaaDoor
open Go.RowKit
theorem nonB_ff {f : Fl} {s : Nat} : nonB f s = 0 ↔ allFF (f.sub (256 * s) 256) = true := by
  unfold nonB
  constructor
  · intro h; cases hb : allFF (f.sub (256 * s) 256) with
    | true => rfl
    | false => rw [hb, if_neg (by decide)] at h; omega
  · intro h; rw [if_pos h]
theorem nonB_or (f : Fl) (s : Nat) : nonB f s = 0 ∨ nonB f s = 1 := by unfold nonB; split <;> omega
theorem clean1_free (f : Fl) (s : Nat) (ht : f.there = false) (h : nonB f s = 0 ∨ f.er s < f.wear) :
    ∃ f', f.clean1 s = (f', 0) ∧ (∀ i, i < 256 → f'.bs (256 * s + i) = 255) ∧ outside f f' (256 * s) 256 ∧ (∀ j, f'.er j = f.er j + (if j = s then nonB f s else 0)) ∧ f'.wear = f.wear ∧ f'.down = f.down ∧ f'.there = false := by
  rcases nonB_or f s with h0 | h1
  · have hb := nonB_ff.1 h0
    refine ⟨f, by unfold Fl.clean1; rw [if_pos hb], fun i hi => sub_ff hb i hi, fun i _ => rfl, fun j => ?_, rfl, rfl, ht⟩
    rw [h0]; split <;> omega
  · have hw : f.er s < f.wear := by rcases h with h | h; omega; exact h
    have hb : ¬ allFF (f.sub (256 * s) 256) = true := fun e => by rw [nonB_ff.2 e] at h1; omega
    have e : f.clean1 s = f.erase s := by unfold Fl.clean1; rw [if_neg hb]
    rw [e]
    rcases erase_cases f s hw with ⟨f', e1, q1, q2, q3, q4, q5, q6⟩ | ⟨q0, _⟩
    · refine ⟨f', e1, fun i hi => ?_, fun i hi => ?_, fun j => ?_, q3, q5, q6 ht⟩
      · rw [q1]; exact if_pos (by omega)
      · rw [q1]; exact if_neg (by omega)
      · rw [q2]; unfold erUp; split
        · rename_i h; subst h; omega
        · omega
    · rw [ht] at q0; cases q0
theorem outside_nonB {f f' : Fl} {b n s : Nat} (h : outside f f' b n) (hs : 256 * s + 256 ≤ b ∨ b + n ≤ 256 * s) : nonB f' s = nonB f s := by
  have e : f'.sub (256 * s) 256 = f.sub (256 * s) 256 := by
    unfold Fl.sub
    apply List.map_congr_left
    intro i hi
    have : i < 256 := by simpa using hi
    exact h _ (by omega)
  unfold nonB; rw [e]
structure SWr2 (f : Fl) (a : Nat) (l : List UInt8) (f' : Fl) : Prop where
  out : outside f f' (256 * a) 512
  er : ∀ j, f'.er j = f.er j + (if j = a then nonB f a else if j = a + 1 then nonB f (a + 1) else 0)
  wear : f'.wear = f.wear
  sub : f'.sub (256 * a) l.length = l
  rest : ∀ i, l.length ≤ i → i < 512 → f'.bs (256 * a + i) = 255
  down : f'.down = f.down
  there : f'.there = false
theorem swrite_free2 (f : Fl) (a : Nat) (l : List UInt8) (hl : l.length ≤ 512) (ht : f.there = false) (h1 : nonB f a = 0 ∨ f.er a < f.wear) (h2 : nonB f (a + 1) = 0 ∨ f.er (a + 1) < f.wear) :
    ∃ f', f.swrite a l = (f', 0) ∧ SWr2 f a l f' := by
  obtain ⟨f1, e1, p1, p2, p3, p4, p5, p6⟩ := clean1_free f a ht h1
  have hn : nonB f1 (a + 1) = nonB f (a + 1) := outside_nonB p2 (by omega)
  obtain ⟨f2, e2, q1, q2, q3, q4, q5, q6⟩ := clean1_free f1 (a + 1) p6 (by rw [hn, p3, if_neg (by omega), p4]; simpa using h2)
  have ec : f.cleanS a = (f2, 0) := by unfold Fl.cleanS; rw [e1, if_pos rfl]; exact e2
  rcases prog_cases l f2 (256 * a) with ⟨f3, e3, r1, r2, r3, r4, r5⟩ | ⟨h0, _⟩
  · have hff : ∀ i, i < 512 → f2.bs (256 * a + i) = 255 := by
      intro i hi
      by_cases h : i < 256
      · rw [q2 _ (by omega)]; exact p1 i h
      · have := q1 (i - 256) (by omega)
        rwa [show 256 * (a + 1) + (i - 256) = 256 * a + i by omega] at this
    have hb : ∀ i, i < 512 → f3.bs (256 * a + i) = l.getD i 255 := by
      intro i hi
      rw [r1]; unfold bsAll
      by_cases h : i < l.length
      · rw [if_pos (by omega), hff i hi, u8_ff, Nat.add_sub_cancel_left]; simp [List.getD, h]
      · rw [if_neg (by omega), hff i hi]; simp [List.getD, h]
    have hs : f3.sub (256 * a) l.length = l := by
      apply List.ext_getElem
      · rw [Fl.sub_length]
      · intro i h1 h2
        simp only [Fl.sub, List.getElem_map, List.getElem_range]
        rw [hb i (by omega)]; simp [List.getD, h2]
    refine ⟨f3, ?_, ⟨fun i hi => ?_, fun j => ?_, (r2.wear.trans q4).trans p4, hs, fun i h1 h2 => ?_, (r4.trans q5).trans p5, r5 q6⟩⟩
    · unfold Fl.swrite
      rw [ec, if_pos rfl]
      dsimp only
      rw [e3, if_pos rfl]
      dsimp only
      unfold Fl.checkS
      rw [if_pos hs]
    · rw [r1]; unfold bsAll; rw [if_neg (by omega), q2 _ (by omega)]; exact p2 _ (by omega)
    · rw [r2.er, q3, p3, hn]
      by_cases h : j = a
      · subst h; rw [if_pos rfl, if_neg (by omega), if_pos rfl]; omega
      · rw [if_neg h, if_neg h]; split <;> omega
    · rw [hb i h2]; simp [List.getD, show ¬ i < l.length by omega]
  · rw [q6] at h0; cases h0
theorem swrite_worn (f : Fl) (a : Nat) (l : List UInt8) (h : nonB f a = 1 ∧ f.wear ≤ f.er a ∨ nonB f a = 0 ∧ nonB f (a + 1) = 1 ∧ f.wear ≤ f.er (a + 1)) : f.swrite a l = (f, 10) := by
  have key : ∀ s, nonB f s = 1 → f.wear ≤ f.er s → f.clean1 s = (f, 10) := by
    intro s hs hw
    have hb : ¬ allFF (f.sub (256 * s) 256) = true := fun e => by rw [nonB_ff.2 e] at hs; omega
    unfold Fl.clean1
    rw [if_neg hb]
    unfold Fl.erase
    rw [if_pos hw]
  have ec : f.cleanS a = (f, 10) := by
    rcases h with ⟨h1, h2⟩ | ⟨h0, h1, h2⟩
    · unfold Fl.cleanS; rw [key a h1 h2, if_neg (show ¬ (10 : Int) = 0 by decide)]
    · have e0 : f.clean1 a = (f, 0) := by unfold Fl.clean1; rw [if_pos (nonB_ff.1 h0)]
      unfold Fl.cleanS; rw [e0, if_pos rfl]; exact key (a + 1) h1 h2
  unfold Fl.swrite
  rw [ec, if_neg (show ¬ (10 : Int) = 0 by decide)]
end Go.Proofs.YtgfdpondnkcogaaDoor
