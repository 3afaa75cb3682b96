/- Slot: what a write makes of flash: mathematics. -/
import Derived.Test.YtgfdpondnkcogaaDoorFlCase
namespace Go.Proofs.YtgfdpondnkcogaaDoor
open Go.RowKit
/-- an erasure of sector s, if it is not blank -/
def Fl.clean1 (f : Fl) (s : Nat) : Fl × Int := if allFF (f.sub (256 * s) 256) then (f, 0) else f.erase s
/-- the two sectors from a on -/
def Fl.cleanS (f : Fl) (a : Nat) : Fl × Int := if (f.clean1 a).2 = 0 then (f.clean1 a).1.clean1 (a + 1) else f.clean1 a
def Fl.checkS (f : Fl) (b : Nat) (l : List UInt8) : Int := if f.sub b l.length = l then 0 else 13
/-- slot.Write, a its first sector -/
def Fl.swrite (f : Fl) (a : Nat) (l : List UInt8) : Fl × Int :=
  if (f.cleanS a).2 = 0 then
    if ((f.cleanS a).1.prog (256 * a) l).2 = 0 then (((f.cleanS a).1.prog (256 * a) l).1, ((f.cleanS a).1.prog (256 * a) l).1.checkS (256 * a) l) else (f.cleanS a).1.prog (256 * a) l
  else f.cleanS a
theorem clean1_down (f : Fl) (s : Nat) (h : (f.clean1 s).2 = 0) : (f.clean1 s).1.down = f.down := by
  unfold Fl.clean1 at h ⊢
  split at h
  · rename_i hb; rw [if_pos hb]
  · rename_i hb; rw [if_neg hb]; exact erase_down_same f s h
theorem Fl.Ok.clean1 {f : Fl} {k : Int} (h : f.Ok k) (s : Nat) : (f.clean1 s).1.Ok (k + 1) := by
  unfold Fl.clean1
  split
  · exact h.more (by omega)
  · exact h.erase s
theorem Fl.Ok.cleanS {f : Fl} {k : Int} (h : f.Ok k) (a : Nat) : (f.cleanS a).1.Ok (k + 2) := by
  unfold Fl.cleanS
  split
  · exact ((h.clean1 a).clean1 (a + 1)).more (by omega)
  · exact (h.clean1 a).more (by omega)
theorem Fl.Ok.swrite {f : Fl} {k : Int} (h : f.Ok k) (a : Nat) (l : List UInt8) (hl : l.length ≤ 512) : (f.swrite a l).1.Ok (k + 514) := by
  unfold Fl.swrite
  split
  · split
    · exact ((h.cleanS a).prog l (256 * a)).more (by omega)
    · exact ((h.cleanS a).prog l (256 * a)).more (by omega)
  · exact (h.cleanS a).more (by omega)
theorem sub_ff {f : Fl} {a n : Nat} (h : allFF (f.sub a n) = true) (i : Nat) (hi : i < n) : f.bs (a + i) = 255 := by
  unfold allFF at h
  rw [List.all_eq_true] at h
  have := h (f.bs (a + i)) (by simp only [Fl.sub, List.mem_map, List.mem_range]; exact ⟨i, hi, rfl⟩)
  simpa using this
theorem ff_sub {f : Fl} {a n : Nat} (h : ∀ i, i < n → f.bs (a + i) = 255) : allFF (f.sub a n) = true := by
  unfold allFF
  rw [List.all_eq_true]
  intro x hx
  simp only [Fl.sub, List.mem_map, List.mem_range] at hx
  obtain ⟨i, hi, rfl⟩ := hx
  rw [h i hi]; rfl
/-- bytes out of [b, b + n) are as they were -/
def outside (f f' : Fl) (b n : Nat) : Prop := ∀ i, i < b ∨ b + n ≤ i → f'.bs i = f.bs i
/-- a clean sector, or a torn erasure -/
theorem clean1_cases (f : Fl) (s : Nat) (hw : f.er s < f.wear) :
    (∃ f', f.clean1 s = (f', 0) ∧ (∀ i, i < 256 → f'.bs (256 * s + i) = 255) ∧ outside f f' (256 * s) 256 ∧ (∀ j, f'.er j ≤ f.er j + (if j = s then 1 else 0)) ∧ f'.wear = f.wear ∧ f'.steps = f.steps + (if allFF (f.sub (256 * s) 256) then 0 else 1) ∧ f'.down = f.down ∧ (f.there = false → f'.there = false)) ∨
    (f.there = true ∧ ∃ f', f.clean1 s = (f', 11) ∧ outside f f' (256 * s) 256 ∧ (∀ j, f'.er j ≤ f.er j + (if j = s then 1 else 0)) ∧ f'.wear = f.wear ∧ f'.down = true ∧ f'.there = false) := by
  by_cases hb : allFF (f.sub (256 * s) 256) = true
  · left
    refine ⟨f, by unfold Fl.clean1; rw [if_pos hb], fun i hi => sub_ff hb i hi, fun i _ => rfl, fun j => by split <;> omega, rfl, by rw [if_pos hb]; omega, rfl, id⟩
  · have e : f.clean1 s = f.erase s := by unfold Fl.clean1; rw [if_neg hb]
    have her : ∀ j, erUp f.er s j ≤ f.er j + (if j = s then 1 else 0) := by
      intro j; unfold erUp; split
      · rename_i h; subst h; omega
      · omega
    rw [e]
    rcases erase_cases f s hw with ⟨f', e1, q1, q2, q3, q4, q5, q6⟩ | ⟨q0, f', t, ht, e1, q1, q2, q3, q4, q5⟩
    · left
      refine ⟨f', e1, fun i hi => ?_, fun i hi => ?_, fun j => by rw [q2]; exact her j, q3, by rw [if_neg hb, q4], q5, q6⟩
      · rw [q1]; exact if_pos (by omega)
      · rw [q1]; exact if_neg (by omega)
    · right
      refine ⟨q0, f', e1, fun i hi => ?_, fun j => by rw [q2]; exact her j, q3, q4, q5⟩
      rw [q1]; exact if_neg (by omega)
def nonB (f : Fl) (s : Nat) : Int := if allFF (f.sub (256 * s) 256) then 0 else 1
theorem cleanS_cases (f : Fl) (a : Nat) (hw : f.er a < f.wear) (hw2 : f.er (a + 1) < f.wear) :
    (∃ f', f.cleanS a = (f', 0) ∧ (∀ i, i < 512 → f'.bs (256 * a + i) = 255) ∧ outside f f' (256 * a) 512 ∧ (∀ j, f'.er j ≤ f.er j + (if j = a ∨ j = a + 1 then 1 else 0)) ∧ f'.wear = f.wear ∧ f'.steps = f.steps + (nonB f a + nonB f (a + 1)) ∧ f'.down = f.down ∧ (f.there = false → f'.there = false)) ∨
    (f.there = true ∧ ∃ f', f.cleanS a = (f', 11) ∧ outside f f' (256 * a) 512 ∧ (∀ j, f'.er j ≤ f.er j + (if j = a ∨ j = a + 1 then 1 else 0)) ∧ f'.wear = f.wear ∧ f'.down = true ∧ f'.there = false) := by
  rcases clean1_cases f a hw with ⟨f1, e1, p1, p2, p3, p4, p5, p6, p7⟩ | ⟨h0, f1, e1, p2, p3, p4, p6, p7⟩
  · have hs2 : f1.sub (256 * (a + 1)) 256 = f.sub (256 * (a + 1)) 256 := by
      unfold Fl.sub
      apply List.map_congr_left
      intro i _
      exact p2 _ (by omega)
    have hw3 : f1.er (a + 1) < f1.wear := by have := p3 (a + 1); rw [if_neg (by omega)] at this; omega
    have e : f.cleanS a = f1.clean1 (a + 1) := by unfold Fl.cleanS; rw [e1, if_pos rfl]
    rw [e]
    rcases clean1_cases f1 (a + 1) hw3 with ⟨f2, e2, q1, q2, q3, q4, q5, q6, q7⟩ | ⟨h0, f2, e2, q2, q3, q4, q6, q7⟩
    · left
      refine ⟨f2, e2, fun i hi => ?_, fun i hi => ?_, fun j => ?_, q4.trans p4, ?_, q6.trans p6, fun h => q7 (p7 h)⟩
      · by_cases h : i < 256
        · rw [q2 _ (by omega)]; exact p1 i h
        · have := q1 (i - 256) (by omega)
          rwa [show 256 * (a + 1) + (i - 256) = 256 * a + i by omega] at this
      · rw [q2 _ (by omega)]; exact p2 _ (by omega)
      · have h1 := p3 j; have h2 := q3 j
        split at h1 <;> split at h2 <;> split <;> omega
      · rw [q5, p5, hs2]; unfold nonB; omega
    · right
      refine ⟨?_, f2, e2, fun i hi => ?_, fun j => ?_, q4.trans p4, q6, q7⟩
      · cases h : f.there with
        | true => rfl
        | false => rw [p7 h] at h0; cases h0
      · rw [q2 _ (by omega)]; exact p2 _ (by omega)
      · have h1 := p3 j; have h2 := q3 j
        split at h1 <;> split at h2 <;> split <;> omega
  · right
    refine ⟨h0, f1, by unfold Fl.cleanS; rw [e1, if_neg (show ¬ (11 : Int) = 0 by decide)], fun i hi => p2 i (by omega), fun j => ?_, p4, p6, p7⟩
    have h1 := p3 j
    split at h1 <;> split <;> omega
/-- what a write into the slot whose first sector is a leaves -/
structure SWrote (f : Fl) (a : Nat) (l : List UInt8) (r : Int) (f' : Fl) : Prop where
  out : outside f f' (256 * a) 512
  er : ∀ j, f'.er j ≤ f.er j + (if j = a ∨ j = a + 1 then 1 else 0)
  wear : f'.wear = f.wear
  yes : r = 0 → f'.sub (256 * a) l.length = l ∧ (∀ i, l.length ≤ i → i < 512 → f'.bs (256 * a + i) = 255) ∧ f'.steps = f.steps + (nonB f a + nonB f (a + 1)) + l.length ∧ f'.down = f.down ∧ (f.there = false → f'.there = false)
  no : r ≠ 0 → r = 11 ∧ f.there = true ∧ f'.there = false ∧ f'.down = true
theorem swrite_cases (f : Fl) (a : Nat) (l : List UInt8) (hl : l.length ≤ 512) (hw : f.er a < f.wear) (hw2 : f.er (a + 1) < f.wear) : SWrote f a l (f.swrite a l).2 (f.swrite a l).1 := by
  rcases cleanS_cases f a hw hw2 with ⟨f1, e1, p1, p2, p3, p4, p5, p6, p7⟩ | ⟨h0, f1, e1, p2, p3, p4, p6, p7⟩
  · rcases prog_cases l f1 (256 * a) with ⟨f2, e2, q1, q2, q3, q4, q5⟩ | ⟨h0, f2, k, tb, hk, e2, q1, q2, q4, q5⟩
    · have hb : ∀ i, i < 512 → f2.bs (256 * a + i) = l.getD i 255 := by
        intro i hi
        rw [q1]; unfold bsAll
        by_cases h : i < l.length
        · rw [if_pos (by omega), p1 i hi, u8_ff, Nat.add_sub_cancel_left]; simp [List.getD, h]
        · rw [if_neg (by omega), p1 i hi]; simp [List.getD, h]
      have hs : f2.sub (256 * a) l.length = l := by
        apply List.ext_getElem
        · rw [Fl.sub_length]
        · intro i h1 h2
          simp only [Fl.sub, List.getElem_map, List.getElem_range]
          rw [hb i (by omega)]; simp [List.getD, h2]
      have e : f.swrite a l = (f2, 0) := by
        unfold Fl.swrite
        rw [e1, if_pos rfl]
        dsimp only
        rw [e2, if_pos rfl]
        dsimp only
        unfold Fl.checkS
        rw [if_pos hs]
      rw [e]
      refine ⟨fun i hi => ?_, fun j => by rw [q2.er]; exact p3 j, q2.wear.trans p4, fun _ => ⟨hs, fun i h1 h2 => ?_, by rw [q3, p5], q4.trans p6, fun h => q5 (p7 h)⟩, fun h => absurd rfl h⟩
      · rw [q1]; unfold bsAll; rw [if_neg (by omega)]; exact p2 i hi
      · rw [hb i h2]; simp [List.getD, show ¬ i < l.length by omega]
    · have e : f.swrite a l = (f2, 11) := by
        unfold Fl.swrite
        rw [e1, if_pos rfl]
        dsimp only
        rw [e2, if_neg (show ¬ (11 : Int) = 0 by decide)]
      rw [e]
      refine ⟨fun i hi => ?_, fun j => by rw [q2.er]; exact p3 j, q2.wear.trans p4, (fun h => absurd h (show ¬ (11 : Int) = 0 by decide)), fun _ => ⟨rfl, ?_, q5, q4⟩⟩
      · rw [q1]; unfold bsTorn; rw [if_neg (by omega), if_neg (by omega)]; exact p2 i hi
      · cases h : f.there with
        | true => rfl
        | false => rw [p7 h] at h0; cases h0
  · have e : f.swrite a l = (f1, 11) := by unfold Fl.swrite; rw [e1, if_neg (show ¬ (11 : Int) = 0 by decide)]
    rw [e]
    exact ⟨p2, p3, p4, (fun h => absurd h (show ¬ (11 : Int) = 0 by decide)), fun _ => ⟨rfl, h0, p7, p6⟩⟩
end Go.Proofs.YtgfdpondnkcogaaDoor
