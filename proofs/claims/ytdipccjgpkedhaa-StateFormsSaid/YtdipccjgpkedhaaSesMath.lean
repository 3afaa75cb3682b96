/- What is admitted, as data. -/
import Derived.Test.YtdipccjgpkedhaaStB
namespace Go.Proofs.Ytdipccjgpkedhaa
theorem admitR_zero {L : LSt} {M : LMan} (h : L.admitR M = 0) : L.may = true ∧ M.may = true ∧ L.trial = 0 ∧ (L.on && L.m.eqb M) = false ∧ L.newer M.v = true ∧ L.gen < 4294967294 := by
  unfold LSt.admitR at h
  by_cases h1 : (L.may && M.may) = false
  · rw [if_pos h1] at h; exact absurd h (by decide)
  rw [if_neg h1] at h
  by_cases h2 : L.trial ≠ 0
  · rw [if_pos h2] at h; exact absurd h (by decide)
  rw [if_neg h2] at h
  by_cases h3 : (L.on && L.m.eqb M) = true
  · rw [if_pos h3] at h; exact absurd h (by decide)
  rw [if_neg h3] at h
  by_cases h4 : L.newer M.v = false
  · rw [if_pos h4] at h; exact absurd h (by decide)
  rw [if_neg h4] at h
  by_cases h5 : 4294967294 ≤ L.gen
  · rw [if_pos h5] at h; exact absurd h (by decide)
  rw [Bool.not_eq_false, Bool.and_eq_true] at h1
  exact ⟨h1.1, h1.2, Decidable.not_not.1 h2, by simpa using h3, by simpa using h4, by omega⟩
theorem may_man {L : LSt} {M : LMan} (h : L.may = true) (hm : M.may = true) (g : Nat) : ({ L with gen := g, on := true, m := M } : LSt).may = true := by
  unfold LSt.may mayB2 at h ⊢
  simp only [Bool.and_eq_true] at h ⊢
  exact ⟨⟨h.1.1, hm⟩, h.2⟩
theorem may_off {L : LSt} (h : L.may = true) : ({ L with on := false, m := LMan.zero } : LSt).may = true := may_less h
theorem newer_parts {L : LSt} {v : Nat} (h : L.newer v = true) : L.flo < v ∧ (if L.act = 0 then L.v0 else L.v1) < v ∧ (L.on = true → L.m.v < v) := by
  unfold LSt.newer newB at h
  simp only [Bool.and_eq_true, Bool.or_eq_true, decide_eq_true_eq] at h
  obtain ⟨⟨⟨_, h1⟩, h2⟩, h3⟩ := h
  refine ⟨h1, h2, fun ho => ?_⟩
  rcases h3 with h3 | h3
  · rw [ho] at h3; exact absurd h3 (by decide)
  · exact h3
theorem newer_of {L : LSt} {v : Nat} (hm : L.may = true) (h1 : L.flo < v) (h2 : (if L.act = 0 then L.v0 else L.v1) < v) (h3 : L.on = true → L.m.v < v) : L.newer v = true := by
  unfold LSt.newer newB
  simp only [Bool.and_eq_true, Bool.or_eq_true, decide_eq_true_eq]
  refine ⟨⟨⟨hm, h1⟩, h2⟩, ?_⟩
  cases ho : L.on with
  | false => exact .inl rfl
  | true => exact .inr (h3 ho)
theorem admitR_off {L : LSt} {M : LMan} (hm : L.may = true) (hM : M.may = true) (ht : L.trial = 0) (ho : L.on = false) (hn : L.newer M.v = true) : L.admitR M = if 4294967294 ≤ L.gen then 9 else 0 := by
  unfold LSt.admitR
  rw [if_neg (by simp [hm, hM]), if_neg (by simp [ht]), if_neg (by simp [ho]), if_neg (by simp [hn])]
theorem admitted_drop {L : LSt} {M : LMan} (h : L.admitR M = 0) : (L.admitted M).may = true ∧ (L.admitted M).light ∧ (L.admitted M).drop = { L.admitted M with on := false, m := LMan.zero } ∧ (L.admitted M).drop.light ∧
    ((L.admitted M).drop.admitR M = if 4294967294 ≤ L.gen + 1 then 9 else 0) ∧ (L.admitted M).drop.admitted M = { L with gen := L.gen + 2, on := true, m := M } ∧ ({ L with gen := L.gen + 2, on := true, m := M } : LSt).may = true ∧ (L.admitted M).drop.newer M.v = true ∧ (L.admitted M).newer M.v = false := by
  obtain ⟨hl, hM, ht, _, hn, _⟩ := admitR_zero h
  obtain ⟨n1, n2, _⟩ := newer_parts hn
  have hm1 : (L.admitted M).may = true := may_man hl hM _
  have hd : (L.admitted M).drop = { L.admitted M with on := false, m := LMan.zero } := by unfold LSt.drop; rw [if_pos hm1]
  have hdm : ({ L.admitted M with on := false, m := LMan.zero } : LSt).may = true := may_off hm1
  have hdn : ({ L.admitted M with on := false, m := LMan.zero } : LSt).newer M.v = true := newer_of hdm n1 n2 (fun h => Bool.noConfusion (show false = true from h))
  refine ⟨hm1, light_of_may hm1, hd, ?_, ?_, ?_, may_man hl hM _, ?_, ?_⟩
  · rw [hd]; exact light_of_may hdm
  · rw [hd]; exact admitR_off hdm hM ht rfl hdn
  · rw [hd]; rfl
  · rw [hd]; exact hdn
  · cases hx : (L.admitted M).newer M.v with
    | false => rfl
    | true => exact absurd ((newer_parts hx).2.2 rfl) (Nat.lt_irrefl _)
end Go.Proofs.Ytdipccjgpkedhaa
