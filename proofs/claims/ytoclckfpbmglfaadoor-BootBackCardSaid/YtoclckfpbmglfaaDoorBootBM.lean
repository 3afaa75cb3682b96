/- BootBack: the mathematics: what Activate, Start, Confirm make of a state. -/
import Derived.Test.YtoclckfpbmglfaaDoorBootA
import Derived.Test.YtoclckfpbmglfaaDoorBootEnds0
namespace Go.Proofs.YtoclckfpbmglfaaDoor
open Go.RowKit
theorem activate_may {L : LSt} (h : L.may = true) (ho : L.on = true) : L.activate.may = true := by
  obtain ⟨act, trial, flo, gen, v0, l0, h0, v1, l1, h1, on, ⟨s, v, l, z, p, d⟩⟩ := L
  dsimp only at ho
  subst ho
  unfold LSt.may mayB2 at h
  simp only [Bool.and_eq_true, decide_eq_true_eq, if_true] at h
  obtain ⟨⟨⟨ha, h2, h3⟩, hm⟩, hf⟩ := h
  obtain ⟨X, Z, P, rfl, rfl, rfl, b1, b2, b3, b4, b5, b6⟩ := man_bounds hm
  have hfil : filledB (X : Int) d.length = true := by
    unfold filledB
    simp
    omega
  rcases ha with rfl | rfl
  · simp only [if_true, Bool.and_eq_true] at hf
    unfold LSt.activate LSt.may mayB2 LMan.zero
    simp [hf.1, hfil]
  · simp only [show ¬ (1 : Int) = 0 by decide, if_false, Bool.and_eq_true] at hf
    unfold LSt.activate LSt.may mayB2 LMan.zero
    simp [hf.1, hfil]
theorem start_slots (L : LSt) : L.start.v0 = L.v0 ∧ L.start.l0 = L.l0 ∧ L.start.h0 = L.h0 ∧ L.start.v1 = L.v1 ∧ L.start.l1 = L.l1 ∧ L.start.h1 = L.h1 := by
  unfold LSt.start
  split <;> exact ⟨rfl, rfl, rfl, rfl, rfl, rfl⟩
theorem starts_slots (L : LSt) : ∀ n : Nat, (L.starts n).v0 = L.v0 ∧ (L.starts n).l0 = L.l0 ∧ (L.starts n).h0 = L.h0 ∧ (L.starts n).v1 = L.v1 ∧ (L.starts n).l1 = L.l1 ∧ (L.starts n).h1 = L.h1
  | 0 => ⟨rfl, rfl, rfl, rfl, rfl, rfl⟩
  | n + 1 => by
    obtain ⟨a1, a2, a3, a4, a5, a6⟩ := starts_slots L n
    obtain ⟨b1, b2, b3, b4, b5, b6⟩ := start_slots (L.starts n)
    exact ⟨b1.trans a1, b2.trans a2, b3.trans a3, b4.trans a4, b5.trans a5, b6.trans a6⟩
theorem activate_is (L : LSt) : L.activate.act = 1 - L.act ∧ L.activate.trial = 3 ∧ L.activate.flo = L.flo ∧ L.activate.on = false := by
  unfold LSt.activate
  split <;> exact ⟨rfl, rfl, rfl, rfl⟩
/-- so many starts lead back: the slot that ran, whole -/
theorem back_is {L : LSt} (ha : L.act = 0 ∨ L.act = 1) : (L.activate.starts 3).act = L.act ∧ (L.activate.starts 3).trial = 0 ∧ (L.activate.starts 3).flo = L.flo ∧
    (if L.act = 0 then (L.activate.starts 3).v0 = L.v0 ∧ (L.activate.starts 3).l0 = L.l0 ∧ (L.activate.starts 3).h0 = L.h0 else (L.activate.starts 3).v1 = L.v1 ∧ (L.activate.starts 3).l1 = L.l1 ∧ (L.activate.starts 3).h1 = L.h1) := by
  obtain ⟨e1, e2, e3, _⟩ := activate_is L
  obtain ⟨f1, f2, f3⟩ := starts_is (L := L.activate) (by omega) 3
  obtain ⟨a1, a2, a3, a4, a5, a6⟩ := starts_slots L.activate 3
  refine ⟨?_, ?_, f1.trans e3, ?_⟩
  · rw [f3, e1, e2, if_pos (by omega)]; omega
  · rw [f2, e2, if_pos (by omega)]
  · rcases ha with h | h
    · rw [if_pos h, a1, a2, a3]
      unfold LSt.activate
      rw [if_pos h]
      exact ⟨rfl, rfl, rfl⟩
    · rw [if_neg (by omega), a4, a5, a6]
      unfold LSt.activate
      rw [if_neg (by omega)]
      exact ⟨rfl, rfl, rfl⟩
theorem start_rest {L : LSt} (h : L.trial = 0) : L.start = L := by unfold LSt.start; rw [if_pos h]
/-- with a Confirm ahead of that the new one runs on, and its version is the floor -/
theorem fore_is {L : LSt} (n : Nat) (hn : n < 3) : (L.activate.starts n).act = 1 - L.act ∧ (L.activate.starts n).trial = 3 - n ∧ (L.activate.starts n).flo = L.flo := by
  obtain ⟨e1, e2, e3, _⟩ := activate_is L
  obtain ⟨f1, f2, f3⟩ := starts_is (L := L.activate) (by omega) n
  refine ⟨?_, ?_, f1.trans e3⟩
  · rw [f3, e1, if_neg (by omega)]
  · rw [f2, e2, if_neg (by omega)]
theorem conf_is {L : LSt} (n : Nat) (hn : n < 3) (ha : L.act = 0 ∨ L.act = 1) : (L.activate.starts n).confirm.act = 1 - L.act ∧ (L.activate.starts n).confirm.trial = 0 ∧ (L.activate.starts n).confirm.flo = max L.flo L.m.v := by
  obtain ⟨g1, g2, g3⟩ := fore_is (L := L) n hn
  obtain ⟨a1, a2, a3, a4, a5, a6⟩ := starts_slots L.activate n
  refine ⟨g1, rfl, ?_⟩
  show max (L.activate.starts n).flo (if (L.activate.starts n).act = 0 then (L.activate.starts n).v0 else (L.activate.starts n).v1) = _
  rw [g1, g3, a1, a4]
  rcases ha with h | h
  · rw [if_neg (by omega)]
    unfold LSt.activate
    rw [if_pos h]
  · rw [if_pos (by omega)]
    unfold LSt.activate
    rw [if_neg (by omega)]
end Go.Proofs.YtoclckfpbmglfaaDoor
