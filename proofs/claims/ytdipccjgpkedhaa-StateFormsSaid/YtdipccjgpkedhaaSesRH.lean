/- SessionRises: what is newer than a state is newer than each state with less; greater versions of what is newer are newer. -/
import Derived.Test.YtdipccjgpkedhaaSwAwake
import Derived.Test.YtdipccjgpkedhaaHeavy
namespace Go.Proofs.Ytdipccjgpkedhaa
open Go.RowKit
theorem bxAll {w : World} {g : Nat} {t : TypeId} {a0 a1 a2 a3 a4 a5 a6 a7 a8 a9 a10 a11 a12 a13 a14 a15 a16 : Value} (h : w.heap[g]? = some (.cells #[a0, a1, a2, a3, a4, a5, a6, a7, a8, a9, a10, a11, a12, a13, a14, a15, a16] t (0, 0))) :
    w.cell? ⟨g, 0, none⟩ = some a0 ∧ w.cell? ⟨g, 1, none⟩ = some a1 ∧ w.cell? ⟨g, 2, none⟩ = some a2 ∧ w.cell? ⟨g, 3, none⟩ = some a3 ∧ w.cell? ⟨g, 4, none⟩ = some a4 ∧ w.cell? ⟨g, 5, none⟩ = some a5 ∧ w.cell? ⟨g, 6, none⟩ = some a6 ∧ w.cell? ⟨g, 7, none⟩ = some a7 ∧ w.cell? ⟨g, 8, none⟩ = some a8 ∧ w.cell? ⟨g, 9, none⟩ = some a9 ∧ w.cell? ⟨g, 10, none⟩ = some a10 ∧ w.cell? ⟨g, 11, none⟩ = some a11 ∧ w.cell? ⟨g, 12, none⟩ = some a12 ∧ w.cell? ⟨g, 13, none⟩ = some a13 ∧ w.cell? ⟨g, 14, none⟩ = some a14 ∧ w.cell? ⟨g, 15, none⟩ = some a15 ∧ w.cell? ⟨g, 16, none⟩ = some a16 := by
  refine ⟨?_, ?_, ?_, ?_, ?_, ?_, ?_, ?_, ?_, ?_, ?_, ?_, ?_, ?_, ?_, ?_, ?_⟩ <;> rw [cell_of_row w g _ _ t (0, 0) h] <;> rfl
theorem may_less {act trial : Int} {v0 : Nat} {l0 : Int} {v1 : Nat} {l1 : Int} {on : Bool} {s v : Nat} {l z p : Int} {h0 h1 h : List UInt8} (hm : mayB2 act trial v0 l0 h0 v1 l1 h1 on s v l z p h = true) : mayB2 act trial v0 l0 h0 v1 l1 h1 false 0 0 0 0 0 [] = true := by
  unfold mayB2 at hm ⊢
  simp only [Bool.and_eq_true] at hm ⊢
  exact ⟨⟨hm.1.1, by simp⟩, hm.2⟩
theorem newB_up {m m2 : Bool} {act : Int} {flo v0 v1 : Nat} {on : Bool} {v lo hi : Nat} (h : newB m act flo v0 v1 on v lo = true) (hle : lo ≤ hi) (h2 : m2 = true) : newB m act flo v0 v1 on v hi = true ∧ newB m2 act flo v0 v1 false 0 lo = true := by
  unfold newB at h ⊢
  simp only [Bool.and_eq_true, Bool.or_eq_true, decide_eq_true_eq] at h ⊢
  obtain ⟨⟨⟨h1, h3⟩, h4⟩, h5⟩ := h
  refine ⟨⟨⟨⟨h1, Nat.lt_of_lt_of_le h3 hle⟩, Nat.lt_of_lt_of_le h4 hle⟩, ?_⟩, ⟨⟨h2, h3⟩, h4⟩, .inl rfl⟩
  rcases h5 with h5 | h5
  · exact .inl h5
  · exact .inr (Nat.lt_of_lt_of_le h5 hle)
theorem newB_flo (m : Bool) (act : Int) (flo v0 v1 : Nat) (on : Bool) (v : Nat) : newB m act flo v0 v1 on v flo = false := by simp [newB]
theorem newB_act (m : Bool) (act : Int) (flo v0 v1 : Nat) (on : Bool) (v : Nat) : newB m act flo v0 v1 on v (if act = 0 then v0 else v1) = false := by simp [newB]
theorem newB_a0 (m : Bool) (flo v0 v1 : Nat) (on : Bool) (v : Nat) : newB m 0 flo v0 v1 on v v0 = false := by simp [newB]
theorem newB_a1 (m : Bool) (flo v0 v1 : Nat) (on : Bool) (v : Nat) : newB m 1 flo v0 v1 on v v1 = false := by simp [newB]
theorem newB_zero (m : Bool) (act : Int) (flo v0 v1 : Nat) (on : Bool) (v : Nat) : newB m act flo v0 v1 on v 0 = false := by simp [newB]
end Go.Proofs.Ytdipccjgpkedhaa
