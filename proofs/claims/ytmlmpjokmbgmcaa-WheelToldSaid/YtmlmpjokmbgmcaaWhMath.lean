/- Wheel: what is opened behind a step of flash: mathematics. -/
import Derived.Test.YtmlmpjokmbgmcaaWh
namespace Go.Proofs.Ytmlmpjokmbgmcaa
open Go.RowKit
def secB (f : Fl) (s : Nat) : List UInt8 := f.sub (256 * (6 + s)) 256
def cntB (f : Fl) (gen size s : Nat) : Bool := plB gen (plAt (secB f s) (size + 13) 0)
theorem secB_length (f : Fl) (s : Nat) : (secB f s).length = 256 := f.sub_length _ _
theorem sub_get (f : Fl) (a n i : Nat) (h : i < n) (d : UInt8) : (f.sub a n).getD i d = f.bs (a + i) := by simp [Fl.sub, List.getD, h]
theorem plAt_sub (f : Fl) (s wide i : Nat) (h : (i + 1) * wide ≤ 256) : plAt (secB f s) wide i = f.sub (256 * (6 + s) + i * wide) wide := by
  apply List.ext_getElem
  · rw [plAt_length (by rw [secB_length]; exact h), f.sub_length]
  · intro k h1 h2
    simp only [plAt, secB, Fl.sub, List.getElem_take, List.getElem_drop, List.getElem_map, List.getElem_range]
    congr 1
    omega
section
variable {f f' : Fl} {gen size : Nat}
theorem opW_no {k : Nat} (h : cntB f gen size k = false) : opW f gen size (k + 1) = opW f gen size k := by
  have e1 := opW_gen f gen size k
  have e2 := opW_size f gen size k
  show (opW f gen size k).look k (secB f k) = _
  unfold Wh.look Wh.wide
  rw [e1, e2, if_neg (by rw [show plB gen (plAt (secB f k) (size + 13) 0) = false from h]; decide)]
theorem opW_yes {k : Nat} (h : cntB f gen size k = true) : opW f gen size (k + 1) = (opW f gen size k).upto k (secB f k) (256 / (size + 13)) := by
  have e1 := opW_gen f gen size k
  have e2 := opW_size f gen size k
  show (opW f gen size k).look k (secB f k) = _
  unfold Wh.look Wh.upto Wh.wide Wh.per
  rw [e1, e2, if_pos (show plB gen (plAt (secB f k) (size + 13) 0) = true from h)]
theorem opW_congr : ∀ k, (∀ s, s < k → secB f' s = secB f s) → opW f' gen size k = opW f gen size k
  | 0, _ => rfl
  | k + 1, h => by
    have ih := opW_congr k (fun s hs => h s (by omega))
    show (opW f' gen size k).look k (secB f' k) = (opW f gen size k).look k (secB f k)
    rw [ih, h k (by omega)]
theorem opW_skip {a : Nat} : ∀ k, a ≤ k → (∀ s, a ≤ s → s < k → cntB f gen size s = false) → opW f gen size k = opW f gen size a
  | 0, h, _ => by rw [show a = 0 by omega]
  | k + 1, h, hs => by
    by_cases e : a = k + 1
    · rw [e]
    · rw [opW_no (hs k (by omega) (by omega))]
      exact opW_skip k (by omega) fun s h1 h2 => hs s h1 (by omega)
theorem opW_cases (f : Fl) (gen size : Nat) : ∀ k, (opW f gen size k = ⟨gen, size, [], -1, 0⟩ ∧ ∀ s, s < k → cntB f gen size s = false) ∨
    (∃ r, r < k ∧ cntB f gen size r = true ∧ (∀ s, r < s → s < k → cntB f gen size s = false) ∧ opW f gen size k = (opW f gen size r).upto r (secB f r) (256 / (size + 13)))
  | 0 => .inl ⟨rfl, fun s h => absurd h (by omega)⟩
  | k + 1 => by
    cases hc : cntB f gen size k with
    | true => exact .inr ⟨k, by omega, hc, fun s h1 h2 => by omega, opW_yes hc⟩
    | false =>
      rw [opW_no hc]
      rcases opW_cases f gen size k with ⟨h1, h2⟩ | ⟨r, h1, h2, h3, h4⟩
      · refine .inl ⟨h1, fun s hs => ?_⟩
        by_cases e : s = k
        · rw [e]; exact hc
        · exact h2 s (by omega)
      · refine .inr ⟨r, by omega, h2, fun s hs1 hs2 => ?_, h4⟩
        by_cases e : s = k
        · rw [e]; exact hc
        · exact h3 s hs1 (by omega)
end
theorem allFF_get {p : List UInt8} (h : allFF p = true) (i : Nat) (hi : i < p.length) (d : UInt8) : p.getD i d = 255 := by
  unfold allFF at h
  rw [List.all_eq_true] at h
  have := h p[i] (List.getElem_mem hi)
  rw [List.getD_eq_getElem?_getD, List.getElem?_eq_getElem hi]
  simpa using this
theorem blank_no {p : List UInt8} {gen : Nat} (h : allFF p = true) (hp : 0 < p.length) : plB gen p = false := by
  apply decide_eq_false
  rintro ⟨_, h2, _⟩
  rw [allFF_get h _ (by omega)] at h2
  exact absurd h2 (by decide)
theorem whole_nb {p : List UInt8} {gen : Nat} (h : plB gen p = true) (hp : 0 < p.length) : allFF p = false := by
  cases e : allFF p with
  | false => rfl
  | true => rw [blank_no e hp] at h; cases h
theorem allFF_of {p : List UInt8} (h : ∀ i, i < p.length → p.getD i 0 = 255) : allFF p = true := by
  unfold allFF
  rw [List.all_eq_true]
  intro x hx
  obtain ⟨j, hj, rfl⟩ := List.getElem_of_mem hx
  have := h j hj
  rw [List.getD_eq_getElem?_getD, List.getElem?_eq_getElem hj] at this
  simpa using this
section
variable {gen wide base n0 : Nat} {b b' : List UInt8}
theorem recsUp_tail {j : Nat} : ∀ k, j ≤ k → (∀ i, j ≤ i → i < k → plB gen (plAt b wide i) = false) → recsUp gen wide b k = recsUp gen wide b j
  | 0, h, _ => by rw [show j = 0 by omega]
  | k + 1, h, hs => by
    by_cases e : j = k + 1
    · rw [e]
    · show recsUp gen wide b k ++ _ = _
      rw [hs k (by omega) (by omega), if_neg (by decide), List.append_nil]
      exact recsUp_tail k (by omega) fun i h1 h2 => hs i h1 (by omega)
theorem nextUp_tail {j : Nat} : ∀ k, j ≤ k → (∀ i, j ≤ i → i < k → allFF (plAt b wide i) = true) → nextUp wide base n0 b k = nextUp wide base n0 b j
  | 0, h, _ => by rw [show j = 0 by omega]
  | k + 1, h, hs => by
    by_cases e : j = k + 1
    · rw [e]
    · show (if allFF (plAt b wide k) then _ else _) = _
      rw [hs k (by omega) (by omega), if_pos rfl]
      exact nextUp_tail k (by omega) fun i h1 h2 => hs i h1 (by omega)
theorem recsUp_congr : ∀ k, (∀ i, i < k → plAt b' wide i = plAt b wide i) → recsUp gen wide b' k = recsUp gen wide b k
  | 0, _ => rfl
  | k + 1, h => by
    show recsUp gen wide b' k ++ _ = recsUp gen wide b k ++ _
    rw [recsUp_congr k (fun i hi => h i (by omega)), h k (by omega)]
theorem nextUp_congr : ∀ k, (∀ i, i < k → plAt b' wide i = plAt b wide i) → nextUp wide base n0 b' k = nextUp wide base n0 b k
  | 0, _ => rfl
  | k + 1, h => by
    show (if allFF (plAt b' wide k) then _ else _) = (if allFF (plAt b wide k) then _ else _)
    rw [nextUp_congr k (fun i hi => h i (by omega)), h k (by omega)]
theorem nextUp_spec : ∀ k, (nextUp wide base n0 b k = n0 ∧ ∀ i, i < k → allFF (plAt b wide i) = true) ∨
    (∃ i, i < k ∧ nextUp wide base n0 b k = base + i + 1 ∧ allFF (plAt b wide i) = false ∧ ∀ j, i < j → j < k → allFF (plAt b wide j) = true)
  | 0 => .inl ⟨rfl, fun i h => absurd h (by omega)⟩
  | k + 1 => by
    cases hc : allFF (plAt b wide k) with
    | false => exact .inr ⟨k, by omega, by show (if allFF (plAt b wide k) then _ else _) = _; rw [hc, if_neg (by decide)], hc, fun j h1 h2 => by omega⟩
    | true =>
      have e : nextUp wide base n0 b (k + 1) = nextUp wide base n0 b k := by show (if allFF (plAt b wide k) then _ else _) = _; rw [hc, if_pos rfl]
      rw [e]
      rcases nextUp_spec k with ⟨h1, h2⟩ | ⟨i, h1, h2, h3, h4⟩
      · refine .inl ⟨h1, fun i hi => ?_⟩
        by_cases e : i = k
        · rw [e]; exact hc
        · exact h2 i (by omega)
      · refine .inr ⟨i, by omega, h2, h3, fun j hj1 hj2 => ?_⟩
        by_cases e : j = k
        · rw [e]; exact hc
        · exact h4 j hj1 (by omega)
end
/-- the state in words: no sector counts; or r is the last one that does, and from place i of it on all is blank -/
theorem opW_state (f : Fl) (gen size : Nat) (h1 : 1 ≤ size) (h2 : size ≤ 16) :
    (opW f gen size 8 = ⟨gen, size, [], -1, 0⟩ ∧ ∀ s, s < 8 → cntB f gen size s = false) ∨
    (∃ r i, r < 8 ∧ i < 256 / (size + 13) ∧ cntB f gen size r = true ∧ (∀ s, r < s → s < 8 → cntB f gen size s = false) ∧ opW f gen size 8 = (opW f gen size r).upto r (secB f r) (256 / (size + 13)) ∧
      (opW f gen size 8).ready = (r : Int) ∧ (opW f gen size 8).next = r * (256 / (size + 13)) + i + 1 ∧ ∀ j, i < j → j < 256 / (size + 13) → allFF (plAt (secB f r) (size + 13) j) = true) := by
  rcases opW_cases f gen size 8 with h | ⟨r, a1, a2, a3, a4⟩
  · exact .inl h
  · right
    have hp := per_bounds h1 h2
    have e2 := opW_size f gen size r
    rcases nextUp_spec (wide := (opW f gen size r).wide) (base := r * (opW f gen size r).per) (n0 := (opW f gen size r).next) (b := secB f r) (256 / (size + 13)) with ⟨_, c2⟩ | ⟨i, c1, c2, _, c4⟩
    · have c3 := c2 0 (by omega)
      unfold Wh.wide at c3
      rw [e2] at c3
      rw [show cntB f gen size r = false from blank_no c3 (by rw [plAt_length (by rw [secB_length]; omega)]; omega)] at a2
      cases a2
    · refine ⟨r, i, a1, c1, a2, a3, a4, by rw [a4]; rfl, ?_, ?_⟩
      · rw [a4]
        show nextUp _ _ _ _ _ = _
        rw [c2]
        unfold Wh.per
        rw [e2]
      · unfold Wh.wide at c4
        rw [e2] at c4
        exact c4
/-- a step that changes the sector of the next place alone: that place comes to be p -/
theorem open_step {f f' : Fl} {gen size S j : Nat} (h1 : 1 ≤ size) (h2 : size ≤ 16) (hn : (opW f gen size 8).next < 8 * (256 / (size + 13))) (hS : (opW f gen size 8).next / (256 / (size + 13)) = S) (hj : (opW f gen size 8).next % (256 / (size + 13)) = j)
    (hsec : ∀ s, s < 8 → s ≠ S → secB f' s = secB f s)
    (hsame : (opW f gen size 8).ready = (S : Int) → ∀ i, i < 256 / (size + 13) → i ≠ j → plAt (secB f' S) (size + 13) i = plAt (secB f S) (size + 13) i)
    (hrest : (opW f gen size 8).ready ≠ (S : Int) → plB gen (plAt (secB f' S) (size + 13) j) = true → ∀ i, 0 < i → i < 256 / (size + 13) → allFF (plAt (secB f' S) (size + 13) i) = true) :
    (plB gen (plAt (secB f' S) (size + 13) j) = true → opW f' gen size 8 = { opW f gen size 8 with L := (opW f gen size 8).L ++ [plR (plAt (secB f' S) (size + 13) j)], ready := (S : Int), next := (opW f gen size 8).next + 1 }) ∧
    (plB gen (plAt (secB f' S) (size + 13) j) = false → (opW f' gen size 8).L = (opW f gen size 8).L) := by
  have hp := per_bounds h1 h2
  obtain ⟨pr, hpr⟩ : ∃ pr, 256 / (size + 13) = pr := ⟨_, rfl⟩
  have hwid : ∀ g i, i < pr → (plAt (secB g S) (size + 13) i).length = size + 13 := fun g i hi => plAt_length (by
    rw [secB_length]
    exact Nat.le_trans (Nat.mul_le_mul_right _ hi) (by rw [← hpr]; exact hp.2.2))
  -- the sector is one that begins
  have begins : ∀ (hS8 : S < 8), j = 0 → (opW f gen size 8).next = S * pr → (opW f gen size 8).ready ≠ (S : Int) → opW f gen size 8 = opW f gen size S → (∀ s, S < s → s < 8 → cntB f gen size s = false) → _ :=
    fun hS8 hj0 hnx hrd hop hno => by
      have hop' : opW f' gen size S = opW f gen size S := opW_congr S fun s hs => hsec s (by omega) (by omega)
      have hno' : ∀ s, S + 1 ≤ s → s < 8 → cntB f' gen size s = false := fun s a b => by
        have := hno s (by omega) b
        unfold cntB at this ⊢
        rw [hsec s b (by omega)]; exact this
      have h8 : opW f' gen size 8 = opW f' gen size (S + 1) := opW_skip 8 (by omega) hno'
      subst hj0
      refine (⟨fun hb => ?_, fun hb => ?_⟩ : (plB gen (plAt (secB f' S) (size + 13) 0) = true → opW f' gen size 8 = { opW f gen size 8 with L := (opW f gen size 8).L ++ [plR (plAt (secB f' S) (size + 13) 0)], ready := (S : Int), next := (opW f gen size 8).next + 1 }) ∧
        (plB gen (plAt (secB f' S) (size + 13) 0) = false → (opW f' gen size 8).L = (opW f gen size 8).L))
      · have hbl := hrest hrd hb
        rw [h8, opW_yes (show cntB f' gen size S = true from hb), hop', ← hop]
        have e1 := opW_gen f gen size 8
        have e2 := opW_size f gen size 8
        generalize opW f gen size 8 = x at *
        rw [hpr] at hbl ⊢
        unfold Wh.upto Wh.wide Wh.per
        rw [e1, e2, hpr]
        have er : recsUp gen (size + 13) (secB f' S) pr = [plR (plAt (secB f' S) (size + 13) 0)] := by
          rw [recsUp_tail (j := 1) pr (by omega) (fun i a b => blank_no (hbl i (by omega) b) (by rw [hwid f' i b]; omega))]
          show [] ++ _ = _
          rw [hb, if_pos rfl]; rfl
        have en : nextUp (size + 13) (S * pr) x.next (secB f' S) pr = x.next + 1 := by
          rw [nextUp_tail (j := 1) pr (by omega) (fun i a b => hbl i (by omega) b)]
          show (if allFF (plAt (secB f' S) (size + 13) 0) then _ else _) = _
          rw [whole_nb hb (by rw [hwid f' 0 (by omega)]; omega), if_neg (by decide), hnx]
        rw [er, en]
        show (⟨gen, size, _, _, _⟩ : Wh) = ⟨x.gen, x.size, _, _, _⟩
        rw [e1, e2]
      · rw [h8, opW_no (show cntB f' gen size S = false from hb), hop', ← hop]
  rcases opW_state f gen size h1 h2 with ⟨a1, a2⟩ | ⟨r, i, a1, a2, a3, a4, a5, a6, a7, a8⟩
  · have hn0 : (opW f gen size 8).next = 0 := by rw [a1]
    have hS0 : S = 0 := by rw [← hS, hn0]; exact Nat.zero_div _
    have hj0 : j = 0 := by rw [← hj, hn0]; exact Nat.zero_mod _
    subst hS0
    exact hj0 ▸ (begins (by omega) hj0 (by rw [hn0, Nat.zero_mul]) (by rw [a1]; show (-1 : Int) ≠ 0; decide) (by rw [a1]; rfl) (fun s _ hs => a2 s hs))
  · rw [hpr] at a2 a5 a7 a8 hn hS hj hsame hrest
    by_cases hr : S = r
    · subst hr
      have hji : j = i + 1 := by
        have e : S * pr + (i + 1) = (opW f gen size 8).next := by rw [a7]; omega
        have hlt : i + 1 < pr := by
          have := Nat.div_add_mod (opW f gen size 8).next pr
          rw [hS, hj] at this
          have hjl : j < pr := by rw [← hj]; exact Nat.mod_lt _ (by omega)
          have hc : pr * S = S * pr := Nat.mul_comm _ _
          omega
        rw [← hj, ← e, Nat.add_comm, Nat.mul_comm, Nat.add_mul_mod_self_left, Nat.mod_eq_of_lt hlt]
      have hjl : j < pr := by rw [← hj]; exact Nat.mod_lt _ (by omega)
      have hop' : opW f' gen size S = opW f gen size S := opW_congr S fun s hs => hsec s (by omega) (by omega)
      have hno' : ∀ s, S + 1 ≤ s → s < 8 → cntB f' gen size s = false := fun s a b => by
        have := a4 s (by omega) b
        unfold cntB at this ⊢
        rw [hsec s b (by omega)]; exact this
      have h8 : opW f' gen size 8 = opW f' gen size (S + 1) := opW_skip 8 (by omega) hno'
      have hsm := hsame a6
      have hc' : cntB f' gen size S = true := by
        unfold cntB
        rw [hsm 0 (by omega) (by omega)]; exact a3
      rw [h8, opW_yes hc', hop', a5, hpr]
      have e1 := opW_gen f gen size S
      have e2 := opW_size f gen size S
      generalize opW f gen size S = x at *
      have er0 : recsUp gen (size + 13) (secB f S) pr = recsUp gen (size + 13) (secB f S) j := recsUp_tail pr (by omega) fun q a b => blank_no (a8 q (by omega) b) (by rw [hwid f q b]; omega)
      have er1 : recsUp gen (size + 13) (secB f' S) pr = recsUp gen (size + 13) (secB f' S) (j + 1) := recsUp_tail pr (by omega) fun q a b => by
        rw [hsm q b (by omega)]
        exact blank_no (a8 q (by omega) b) (by rw [hwid f q b]; omega)
      have er2 : recsUp gen (size + 13) (secB f' S) j = recsUp gen (size + 13) (secB f S) j := recsUp_congr j fun q hq => hsm q (by omega) (by omega)
      unfold Wh.upto Wh.wide Wh.per
      rw [e1, e2, hpr, er0, er1]
      refine ⟨fun hb => ?_, fun hb => ?_⟩
      · have er3 : recsUp gen (size + 13) (secB f' S) (j + 1) = recsUp gen (size + 13) (secB f S) j ++ [plR (plAt (secB f' S) (size + 13) j)] := by
          show recsUp gen (size + 13) (secB f' S) j ++ _ = _
          rw [er2, hb, if_pos rfl]
        have en1 : nextUp (size + 13) (S * pr) x.next (secB f' S) pr = S * pr + j + 1 := by
          rw [nextUp_tail (j := j + 1) pr (by omega) (fun q a b => by rw [hsm q b (by omega)]; exact a8 q (by omega) b)]
          show (if allFF (plAt (secB f' S) (size + 13) j) then _ else _) = _
          rw [whole_nb hb (by rw [hwid f' j hjl]; omega), if_neg (by decide)]
        have en0 : nextUp (size + 13) (S * pr) x.next (secB f S) pr = S * pr + i + 1 := by
          have := a7
          rw [a5] at this
          unfold Wh.upto Wh.wide Wh.per at this
          rw [e2, hpr] at this
          exact this
        rw [er3, en1, en0, ← List.append_assoc, hji]
        rfl
      · have er3 : recsUp gen (size + 13) (secB f' S) (j + 1) = recsUp gen (size + 13) (secB f S) j := by
          show recsUp gen (size + 13) (secB f' S) j ++ _ = _
          rw [er2, hb, if_neg (by decide), List.append_nil]
        rw [er3]
    · have hfull : i + 1 = pr ∧ S = r + 1 ∧ j = 0 := by
        have e : (opW f gen size 8).next = r * pr + (i + 1) := by rw [a7]; omega
        by_cases hlt : i + 1 < pr
        · exfalso
          apply hr
          rw [← hS, e, Nat.mul_comm, Nat.mul_add_div (by omega), Nat.div_eq_of_lt hlt, Nat.add_zero]
        · have hi : i + 1 = pr := by omega
          have e2 : (opW f gen size 8).next = (r + 1) * pr := by rw [e, hi, Nat.succ_mul]
          exact ⟨hi, by rw [← hS, e2]; exact Nat.mul_div_cancel _ (by omega), by rw [← hj, e2]; exact Nat.mul_mod_left _ _⟩
      obtain ⟨q1, q2, q3⟩ := hfull
      have hS8 : S < 8 := by rw [← hS]; exact Nat.div_lt_of_lt_mul (by rw [Nat.mul_comm]; exact hn)
      have hb := begins hS8 q3 (by rw [a7, q2, Nat.succ_mul, Nat.add_assoc, q1]) (by rw [a6]; intro e; exact hr (Int.ofNat.inj e).symm) (opW_skip 8 (by omega) fun s x y => a4 s (by omega) y) (fun s x y => a4 s (by omega) y)
      subst q3
      exact hb
theorem next_blank {f : Fl} {gen size S j : Nat} (h1 : 1 ≤ size) (h2 : size ≤ 16) (hS : (opW f gen size 8).next / (256 / (size + 13)) = S) (hj : (opW f gen size 8).next % (256 / (size + 13)) = j) (hr : (opW f gen size 8).ready = (S : Int)) : allFF (plAt (secB f S) (size + 13) j) = true := by
  have hp := per_bounds h1 h2
  rcases opW_state f gen size h1 h2 with ⟨a1, _⟩ | ⟨r, i, a1, a2, a3, a4, a5, a6, a7, a8⟩
  · rw [a1] at hr
    have : (-1 : Int) = (S : Int) := hr
    omega
  · have hrS : r = S := by rw [a6] at hr; omega
    subst hrS
    generalize 256 / (size + 13) = pr at *
    have hjl : j < pr := by rw [← hj]; exact Nat.mod_lt _ (by omega)
    have := Nat.div_add_mod (opW f gen size 8).next pr
    rw [hS, hj] at this
    have hc : pr * r = r * pr := Nat.mul_comm _ _
    exact a8 j (by omega) hjl
end Go.Proofs.Ytmlmpjokmbgmcaa
