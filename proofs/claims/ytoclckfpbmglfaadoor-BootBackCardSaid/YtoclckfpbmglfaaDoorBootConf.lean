/- BootConfirms' walk. -/
import Derived.Test.YtoclckfpbmglfaaDoorBootW
import Derived.Test.YtoclckfpbmglfaaDoorSesRH
namespace Go.Proofs.YtoclckfpbmglfaaDoor
open Go.RowKit Sh
theorem confirm_may {L : LSt} (h : L.may = true) : L.confirm.may = true := by
  unfold LSt.may mayB2 at h ⊢
  simp only [LSt.confirm]
  rw [Bool.and_eq_true, Bool.and_eq_true, Bool.and_eq_true] at h ⊢
  obtain ⟨⟨⟨h1, _⟩, hm⟩, hs⟩ := h
  refine ⟨⟨⟨h1, by simp⟩, hm⟩, ?_⟩
  split at hs
  · rename_i h0
    rw [if_pos h0]
    simp only [Bool.and_eq_true, Bool.or_eq_true, decide_eq_true_eq] at hs ⊢
    exact ⟨hs.1, hs.2.imp id fun h => ⟨trivial, h.2⟩⟩
  · rename_i h0
    rw [if_neg h0]
    simp only [Bool.and_eq_true, Bool.or_eq_true, decide_eq_true_eq] at hs ⊢
    exact ⟨hs.1, hs.2.imp id fun h => ⟨trivial, h.2⟩⟩
theorem confirm_twice (L : LSt) : L.confirm.confirm = L.confirm := by
  unfold LSt.confirm
  by_cases h : L.act = 0
  · simp only [h, if_pos, Nat.max_assoc, Nat.max_self]
  · simp only [if_neg h, Nat.max_assoc, Nat.max_self]
end Go.Proofs.YtoclckfpbmglfaaDoor
