/- BootEnds' walk. -/
import Derived.Test.YtoclckfpbmglfaaDoorBootConf
namespace Go.Proofs.YtoclckfpbmglfaaDoor
open Go.RowKit Sh
theorem start_may {L : LSt} (h : L.may = true) : L.start.may = true := by
  unfold LSt.start
  by_cases t0 : L.trial = 0
  · rw [if_pos t0]; exact h
  rw [if_neg t0]
  unfold LSt.may mayB2 at h ⊢
  simp only [Bool.and_eq_true, decide_eq_true_eq] at h ⊢
  obtain ⟨⟨⟨h1, h2, h3⟩, hm⟩, hs⟩ := h
  have hf : filledB L.l0 L.h0.length = true ∧ filledB L.l1 L.h1.length = true := by
    split at hs <;> simp only [Bool.and_eq_true, Bool.or_eq_true, decide_eq_true_eq] at hs
    · exact ⟨hs.1, hs.2.resolve_right fun h => t0 h.1⟩
    · exact ⟨hs.2.resolve_right fun h => t0 h.1, hs.1⟩
  refine ⟨⟨⟨by split <;> omega, by omega, by omega⟩, hm⟩, ?_⟩
  rw [hf.1, hf.2]
  simp
def LSt.starts (L : LSt) : Nat → LSt
  | 0 => L
  | n + 1 => (L.starts n).start
theorem starts_may {L : LSt} (h : L.may = true) : ∀ n, (L.starts n).may = true
  | 0 => h
  | n + 1 => start_may (starts_may h n)
theorem starts_is {L : LSt} (h0 : 0 ≤ L.trial) : ∀ n : Nat, (L.starts n).flo = L.flo ∧ (L.starts n).trial = (if L.trial ≤ (n : Int) then 0 else L.trial - n) ∧ (L.starts n).act = (if 0 < L.trial ∧ L.trial ≤ (n : Int) then 1 - L.act else L.act)
  | 0 => by
    refine ⟨rfl, ?_, ?_⟩
    · show L.trial = _
      split <;> omega
    · show L.act = _
      rw [if_neg (by omega)]
  | n + 1 => by
    obtain ⟨hf, ht, ha⟩ := starts_is h0 n
    have e : L.starts (n + 1) = (L.starts n).start := rfl
    by_cases c : (L.starts n).trial = 0
    · rw [e, LSt.start, if_pos c]
      rw [c] at ht
      have hle : L.trial ≤ (n : Int) := by
        by_cases q : L.trial ≤ (n : Int)
        · exact q
        · rw [if_neg q] at ht; omega
      refine ⟨hf, ?_, ?_⟩
      · rw [c, if_pos (by omega)]
      · rw [ha]
        by_cases q : 0 < L.trial
        · rw [if_pos ⟨q, hle⟩, if_pos ⟨q, by omega⟩]
        · rw [if_neg (fun h => q h.1), if_neg (fun h => q h.1)]
    · rw [e, LSt.start, if_neg c]
      have hgt : ¬ L.trial ≤ (n : Int) := fun q => c (by rw [ht, if_pos q])
      rw [if_neg hgt] at ht
      rw [if_neg (fun h => hgt h.2)] at ha
      refine ⟨hf, ?_, ?_⟩
      · show (L.starts n).trial - 1 = _
        rw [ht]; split <;> omega
      · show (if (L.starts n).trial = 1 then 1 - (L.starts n).act else (L.starts n).act) = _
        rw [ht, ha]
        by_cases q : L.trial - n = 1
        · rw [if_pos q, if_pos (by omega)]
        · rw [if_neg q, if_neg (by omega)]
/-- between two starts: in box g9 the state after j of them -/
structure EI (w : World) (g9 : Nat) (cs : Array Value) (L : LSt) (j : Nat) (W : World) : Prop where
  b : Below w.heap.size w W
  xs : W.heap[w.heap.size]? = some (.cells cs 30 (0, 0))
  z : ∃ c, W.heap[g9]? = some (.cells c 30 (0, 0)) ∧ IsSt W (fun b => b ≠ g9) c (L.starts j)
end Go.Proofs.YtoclckfpbmglfaaDoor
