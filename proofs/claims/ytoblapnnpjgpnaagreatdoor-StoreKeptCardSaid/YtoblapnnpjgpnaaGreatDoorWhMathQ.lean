/- Wheel: what is opened behind a step of flash: mathematics. Wheel: what Add makes of flash, whole or torn: mathematics. Wheel: Add by cases: mathematics. -/
import Derived.Test.YtoblapnnpjgpnaaGreatDoorZJQ
namespace Go.Proofs.YtoblapnnpjgpnaaGreatDoor
open Go.RowKit
def secB (f : Fl) (s : Nat) : List UInt8 := f.sub (256 * (6 + s)) 256
def cntB (f : Fl) (gen size s : Nat) : Bool := plB gen (plAt (secB f s) (size + 13) 0)
theorem secB_length (f : Fl) (s : Nat) : (secB f s).length = 256 := f.sub_length _ _
theorem sub_get (f : Fl) (a n i : Nat) (h : i < n) (d : UInt8) : (f.sub a n).getD i d = f.bs (a + i) := by simp [Fl.sub, List.getD, h]
theorem plAt_sub (f : Fl) (s wide i : Nat) (h : (i + 1) * wide ≤ 256) : plAt (secB f s) wide i = f.sub (256 * (6 + s) + i * wide) wide := by
  apply List.ext_getElem
  · rw [plAt_length (by rw [secB_length]; exact h), f.sub_length]
  · intro k h1 h2
    simp only [plAt, secB, Fl.sub, List.getElem_take, List.getElem_drop, List.getElem_map, List.getElem_range]
    congr 1
    omega
section
variable {f f' : Fl} {gen size : Nat}
theorem opW_no {k : Nat} (h : cntB f gen size k = false) : opW f gen size (k + 1) = opW f gen size k := by
  have e1 := opW_gen f gen size k
  have e2 := opW_size f gen size k
  show (opW f gen size k).look k (secB f k) = _
  unfold Wh.look Wh.wide
  rw [e1, e2, if_neg (by rw [show plB gen (plAt (secB f k) (size + 13) 0) = false from h]; decide)]
theorem opW_yes {k : Nat} (h : cntB f gen size k = true) : opW f gen size (k + 1) = (opW f gen size k).upto k (secB f k) (256 / (size + 13)) := by
  have e1 := opW_gen f gen size k
  have e2 := opW_size f gen size k
  show (opW f gen size k).look k (secB f k) = _
  unfold Wh.look Wh.upto Wh.wide Wh.per
  rw [e1, e2, if_pos (show plB gen (plAt (secB f k) (size + 13) 0) = true from h)]
theorem opW_congr : ∀ k, (∀ s, s < k → secB f' s = secB f s) → opW f' gen size k = opW f gen size k
  | 0, _ => rfl
  | k + 1, h => by
    have ih := opW_congr k (fun s hs => h s (by omega))
    show (opW f' gen size k).look k (secB f' k) = (opW f gen size k).look k (secB f k)
    rw [ih, h k (by omega)]
theorem opW_skip {a : Nat} : ∀ k, a ≤ k → (∀ s, a ≤ s → s < k → cntB f gen size s = false) → opW f gen size k = opW f gen size a
  | 0, h, _ => by rw [show a = 0 by omega]
  | k + 1, h, hs => by
    by_cases e : a = k + 1
    · rw [e]
    · rw [opW_no (hs k (by omega) (by omega))]
      exact opW_skip k (by omega) fun s h1 h2 => hs s h1 (by omega)
theorem opW_cases (f : Fl) (gen size : Nat) : ∀ k, (opW f gen size k = ⟨gen, size, [], -1, 0⟩ ∧ ∀ s, s < k → cntB f gen size s = false) ∨
    (∃ r, r < k ∧ cntB f gen size r = true ∧ (∀ s, r < s → s < k → cntB f gen size s = false) ∧ opW f gen size k = (opW f gen size r).upto r (secB f r) (256 / (size + 13)))
  | 0 => .inl ⟨rfl, fun s h => absurd h (by omega)⟩
  | k + 1 => by
    cases hc : cntB f gen size k with
    | true => exact .inr ⟨k, by omega, hc, fun s h1 h2 => by omega, opW_yes hc⟩
    | false =>
      rw [opW_no hc]
      rcases opW_cases f gen size k with ⟨h1, h2⟩ | ⟨r, h1, h2, h3, h4⟩
      · refine .inl ⟨h1, fun s hs => ?_⟩
        by_cases e : s = k
        · rw [e]; exact hc
        · exact h2 s (by omega)
      · refine .inr ⟨r, by omega, h2, fun s hs1 hs2 => ?_, h4⟩
        by_cases e : s = k
        · rw [e]; exact hc
        · exact h3 s hs1 (by omega)
end
theorem allFF_get {p : List UInt8} (h : allFF p = true) (i : Nat) (hi : i < p.length) (d : UInt8) : p.getD i d = 255 := by
  unfold allFF at h
  rw [List.all_eq_true] at h
  have := h p[i] (List.getElem_mem hi)
  rw [List.getD_eq_getElem?_getD, List.getElem?_eq_getElem hi]
  simpa using this
theorem blank_no {p : List UInt8} {gen : Nat} (h : allFF p = true) (hp : 0 < p.length) : plB gen p = false := by
  apply decide_eq_false
  rintro ⟨_, h2, _⟩
  rw [allFF_get h _ (by omega)] at h2
  exact absurd h2 (by decide)
theorem whole_nb {p : List UInt8} {gen : Nat} (h : plB gen p = true) (hp : 0 < p.length) : allFF p = false := by
  cases e : allFF p with
  | false => rfl
  | true => rw [blank_no e hp] at h; cases h
theorem allFF_of {p : List UInt8} (h : ∀ i, i < p.length → p.getD i 0 = 255) : allFF p = true := by
  unfold allFF
  rw [List.all_eq_true]
  intro x hx
  obtain ⟨j, hj, rfl⟩ := List.getElem_of_mem hx
  have := h j hj
  rw [List.getD_eq_getElem?_getD, List.getElem?_eq_getElem hj] at this
  simpa using this
section
variable {gen wide base n0 : Nat} {b b' : List UInt8}
theorem recsUp_tail {j : Nat} : ∀ k, j ≤ k → (∀ i, j ≤ i → i < k → plB gen (plAt b wide i) = false) → recsUp gen wide b k = recsUp gen wide b j
  | 0, h, _ => by rw [show j = 0 by omega]
  | k + 1, h, hs => by
    by_cases e : j = k + 1
    · rw [e]
    · show recsUp gen wide b k ++ _ = _
      rw [hs k (by omega) (by omega), if_neg (by decide), List.append_nil]
      exact recsUp_tail k (by omega) fun i h1 h2 => hs i h1 (by omega)
theorem nextUp_tail {j : Nat} : ∀ k, j ≤ k → (∀ i, j ≤ i → i < k → allFF (plAt b wide i) = true) → nextUp wide base n0 b k = nextUp wide base n0 b j
  | 0, h, _ => by rw [show j = 0 by omega]
  | k + 1, h, hs => by
    by_cases e : j = k + 1
    · rw [e]
    · show (if allFF (plAt b wide k) then _ else _) = _
      rw [hs k (by omega) (by omega), if_pos rfl]
      exact nextUp_tail k (by omega) fun i h1 h2 => hs i h1 (by omega)
theorem recsUp_congr : ∀ k, (∀ i, i < k → plAt b' wide i = plAt b wide i) → recsUp gen wide b' k = recsUp gen wide b k
  | 0, _ => rfl
  | k + 1, h => by
    show recsUp gen wide b' k ++ _ = recsUp gen wide b k ++ _
    rw [recsUp_congr k (fun i hi => h i (by omega)), h k (by omega)]
theorem nextUp_spec : ∀ k, (nextUp wide base n0 b k = n0 ∧ ∀ i, i < k → allFF (plAt b wide i) = true) ∨
    (∃ i, i < k ∧ nextUp wide base n0 b k = base + i + 1 ∧ allFF (plAt b wide i) = false ∧ ∀ j, i < j → j < k → allFF (plAt b wide j) = true)
  | 0 => .inl ⟨rfl, fun i h => absurd h (by omega)⟩
  | k + 1 => by
    cases hc : allFF (plAt b wide k) with
    | false => exact .inr ⟨k, by omega, by show (if allFF (plAt b wide k) then _ else _) = _; rw [hc, if_neg (by decide)], hc, fun j h1 h2 => by omega⟩
    | true =>
      have e : nextUp wide base n0 b (k + 1) = nextUp wide base n0 b k := by show (if allFF (plAt b wide k) then _ else _) = _; rw [hc, if_pos rfl]
      rw [e]
      rcases nextUp_spec k with ⟨h1, h2⟩ | ⟨i, h1, h2, h3, h4⟩
      · refine .inl ⟨h1, fun i hi => ?_⟩
        by_cases e : i = k
        · rw [e]; exact hc
        · exact h2 i (by omega)
      · refine .inr ⟨i, by omega, h2, h3, fun j hj1 hj2 => ?_⟩
        by_cases e : j = k
        · rw [e]; exact hc
        · exact h4 j hj1 (by omega)
end
/-- the state in words: no sector counts; or r is the last one that does, and from place i of it on all is blank -/
theorem opW_state (f : Fl) (gen size : Nat) (h1 : 1 ≤ size) (h2 : size ≤ 16) :
    (opW f gen size 8 = ⟨gen, size, [], -1, 0⟩ ∧ ∀ s, s < 8 → cntB f gen size s = false) ∨
    (∃ r i, r < 8 ∧ i < 256 / (size + 13) ∧ cntB f gen size r = true ∧ (∀ s, r < s → s < 8 → cntB f gen size s = false) ∧ opW f gen size 8 = (opW f gen size r).upto r (secB f r) (256 / (size + 13)) ∧
      (opW f gen size 8).ready = (r : Int) ∧ (opW f gen size 8).next = r * (256 / (size + 13)) + i + 1 ∧ ∀ j, i < j → j < 256 / (size + 13) → allFF (plAt (secB f r) (size + 13) j) = true) := by
  rcases opW_cases f gen size 8 with h | ⟨r, a1, a2, a3, a4⟩
  · exact .inl h
  · right
    have hp := per_bounds h1 h2
    have e2 := opW_size f gen size r
    rcases nextUp_spec (wide := (opW f gen size r).wide) (base := r * (opW f gen size r).per) (n0 := (opW f gen size r).next) (b := secB f r) (256 / (size + 13)) with ⟨_, c2⟩ | ⟨i, c1, c2, _, c4⟩
    · have c3 := c2 0 (by omega)
      unfold Wh.wide at c3
      rw [e2] at c3
      rw [show cntB f gen size r = false from blank_no c3 (by rw [plAt_length (by rw [secB_length]; omega)]; omega)] at a2
      cases a2
    · refine ⟨r, i, a1, c1, a2, a3, a4, by rw [a4]; rfl, ?_, ?_⟩
      · rw [a4]
        show nextUp _ _ _ _ _ = _
        rw [c2]
        unfold Wh.per
        rw [e2]
      · unfold Wh.wide at c4
        rw [e2] at c4
        exact c4
/-- a step that changes the sector of the next place alone: that place comes to be p -/
theorem open_step {f f' : Fl} {gen size S j : Nat} (h1 : 1 ≤ size) (h2 : size ≤ 16) (hn : (opW f gen size 8).next < 8 * (256 / (size + 13))) (hS : (opW f gen size 8).next / (256 / (size + 13)) = S) (hj : (opW f gen size 8).next % (256 / (size + 13)) = j)
    (hsec : ∀ s, s < 8 → s ≠ S → secB f' s = secB f s)
    (hsame : (opW f gen size 8).ready = (S : Int) → ∀ i, i < 256 / (size + 13) → i ≠ j → plAt (secB f' S) (size + 13) i = plAt (secB f S) (size + 13) i)
    (hrest : (opW f gen size 8).ready ≠ (S : Int) → plB gen (plAt (secB f' S) (size + 13) j) = true → ∀ i, 0 < i → i < 256 / (size + 13) → allFF (plAt (secB f' S) (size + 13) i) = true) :
    (plB gen (plAt (secB f' S) (size + 13) j) = true → opW f' gen size 8 = { opW f gen size 8 with L := (opW f gen size 8).L ++ [plR (plAt (secB f' S) (size + 13) j)], ready := (S : Int), next := (opW f gen size 8).next + 1 }) ∧
    (plB gen (plAt (secB f' S) (size + 13) j) = false → (opW f' gen size 8).L = (opW f gen size 8).L) := by
  have hp := per_bounds h1 h2
  obtain ⟨pr, hpr⟩ : ∃ pr, 256 / (size + 13) = pr := ⟨_, rfl⟩
  have hwid : ∀ g i, i < pr → (plAt (secB g S) (size + 13) i).length = size + 13 := fun g i hi => plAt_length (by
    rw [secB_length]
    exact Nat.le_trans (Nat.mul_le_mul_right _ hi) (by rw [← hpr]; exact hp.2.2))
  -- the sector is one that begins
  have begins : ∀ (hS8 : S < 8), j = 0 → (opW f gen size 8).next = S * pr → (opW f gen size 8).ready ≠ (S : Int) → opW f gen size 8 = opW f gen size S → (∀ s, S < s → s < 8 → cntB f gen size s = false) → _ :=
    fun hS8 hj0 hnx hrd hop hno => by
      have hop' : opW f' gen size S = opW f gen size S := opW_congr S fun s hs => hsec s (by omega) (by omega)
      have hno' : ∀ s, S + 1 ≤ s → s < 8 → cntB f' gen size s = false := fun s a b => by
        have := hno s (by omega) b
        unfold cntB at this ⊢
        rw [hsec s b (by omega)]; exact this
      have h8 : opW f' gen size 8 = opW f' gen size (S + 1) := opW_skip 8 (by omega) hno'
      subst hj0
      refine (⟨fun hb => ?_, fun hb => ?_⟩ : (plB gen (plAt (secB f' S) (size + 13) 0) = true → opW f' gen size 8 = { opW f gen size 8 with L := (opW f gen size 8).L ++ [plR (plAt (secB f' S) (size + 13) 0)], ready := (S : Int), next := (opW f gen size 8).next + 1 }) ∧
        (plB gen (plAt (secB f' S) (size + 13) 0) = false → (opW f' gen size 8).L = (opW f gen size 8).L))
      · have hbl := hrest hrd hb
        rw [h8, opW_yes (show cntB f' gen size S = true from hb), hop', ← hop]
        have e1 := opW_gen f gen size 8
        have e2 := opW_size f gen size 8
        generalize opW f gen size 8 = x at *
        rw [hpr] at hbl ⊢
        unfold Wh.upto Wh.wide Wh.per
        rw [e1, e2, hpr]
        have er : recsUp gen (size + 13) (secB f' S) pr = [plR (plAt (secB f' S) (size + 13) 0)] := by
          rw [recsUp_tail (j := 1) pr (by omega) (fun i a b => blank_no (hbl i (by omega) b) (by rw [hwid f' i b]; omega))]
          show [] ++ _ = _
          rw [hb, if_pos rfl]; rfl
        have en : nextUp (size + 13) (S * pr) x.next (secB f' S) pr = x.next + 1 := by
          rw [nextUp_tail (j := 1) pr (by omega) (fun i a b => hbl i (by omega) b)]
          show (if allFF (plAt (secB f' S) (size + 13) 0) then _ else _) = _
          rw [whole_nb hb (by rw [hwid f' 0 (by omega)]; omega), if_neg (by decide), hnx]
        rw [er, en]
        show (⟨gen, size, _, _, _⟩ : Wh) = ⟨x.gen, x.size, _, _, _⟩
        rw [e1, e2]
      · rw [h8, opW_no (show cntB f' gen size S = false from hb), hop', ← hop]
  rcases opW_state f gen size h1 h2 with ⟨a1, a2⟩ | ⟨r, i, a1, a2, a3, a4, a5, a6, a7, a8⟩
  · have hn0 : (opW f gen size 8).next = 0 := by rw [a1]
    have hS0 : S = 0 := by rw [← hS, hn0]; exact Nat.zero_div _
    have hj0 : j = 0 := by rw [← hj, hn0]; exact Nat.zero_mod _
    subst hS0
    exact hj0 ▸ (begins (by omega) hj0 (by rw [hn0, Nat.zero_mul]) (by rw [a1]; show (-1 : Int) ≠ 0; decide) (by rw [a1]; rfl) (fun s _ hs => a2 s hs))
  · rw [hpr] at a2 a5 a7 a8 hn hS hj hsame hrest
    by_cases hr : S = r
    · subst hr
      have hji : j = i + 1 := by
        have e : S * pr + (i + 1) = (opW f gen size 8).next := by rw [a7]; omega
        have hlt : i + 1 < pr := by
          have := Nat.div_add_mod (opW f gen size 8).next pr
          rw [hS, hj] at this
          have hjl : j < pr := by rw [← hj]; exact Nat.mod_lt _ (by omega)
          have hc : pr * S = S * pr := Nat.mul_comm _ _
          omega
        rw [← hj, ← e, Nat.add_comm, Nat.mul_comm, Nat.add_mul_mod_self_left, Nat.mod_eq_of_lt hlt]
      have hjl : j < pr := by rw [← hj]; exact Nat.mod_lt _ (by omega)
      have hop' : opW f' gen size S = opW f gen size S := opW_congr S fun s hs => hsec s (by omega) (by omega)
      have hno' : ∀ s, S + 1 ≤ s → s < 8 → cntB f' gen size s = false := fun s a b => by
        have := a4 s (by omega) b
        unfold cntB at this ⊢
        rw [hsec s b (by omega)]; exact this
      have h8 : opW f' gen size 8 = opW f' gen size (S + 1) := opW_skip 8 (by omega) hno'
      have hsm := hsame a6
      have hc' : cntB f' gen size S = true := by
        unfold cntB
        rw [hsm 0 (by omega) (by omega)]; exact a3
      rw [h8, opW_yes hc', hop', a5, hpr]
      have e1 := opW_gen f gen size S
      have e2 := opW_size f gen size S
      generalize opW f gen size S = x at *
      have er0 : recsUp gen (size + 13) (secB f S) pr = recsUp gen (size + 13) (secB f S) j := recsUp_tail pr (by omega) fun q a b => blank_no (a8 q (by omega) b) (by rw [hwid f q b]; omega)
      have er1 : recsUp gen (size + 13) (secB f' S) pr = recsUp gen (size + 13) (secB f' S) (j + 1) := recsUp_tail pr (by omega) fun q a b => by
        rw [hsm q b (by omega)]
        exact blank_no (a8 q (by omega) b) (by rw [hwid f q b]; omega)
      have er2 : recsUp gen (size + 13) (secB f' S) j = recsUp gen (size + 13) (secB f S) j := recsUp_congr j fun q hq => hsm q (by omega) (by omega)
      unfold Wh.upto Wh.wide Wh.per
      rw [e1, e2, hpr, er0, er1]
      refine ⟨fun hb => ?_, fun hb => ?_⟩
      · have er3 : recsUp gen (size + 13) (secB f' S) (j + 1) = recsUp gen (size + 13) (secB f S) j ++ [plR (plAt (secB f' S) (size + 13) j)] := by
          show recsUp gen (size + 13) (secB f' S) j ++ _ = _
          rw [er2, hb, if_pos rfl]
        have en1 : nextUp (size + 13) (S * pr) x.next (secB f' S) pr = S * pr + j + 1 := by
          rw [nextUp_tail (j := j + 1) pr (by omega) (fun q a b => by rw [hsm q b (by omega)]; exact a8 q (by omega) b)]
          show (if allFF (plAt (secB f' S) (size + 13) j) then _ else _) = _
          rw [whole_nb hb (by rw [hwid f' j hjl]; omega), if_neg (by decide)]
        have en0 : nextUp (size + 13) (S * pr) x.next (secB f S) pr = S * pr + i + 1 := by
          have := a7
          rw [a5] at this
          unfold Wh.upto Wh.wide Wh.per at this
          rw [e2, hpr] at this
          exact this
        rw [er3, en1, en0, ← List.append_assoc, hji]
        rfl
      · have er3 : recsUp gen (size + 13) (secB f' S) (j + 1) = recsUp gen (size + 13) (secB f S) j := by
          show recsUp gen (size + 13) (secB f' S) j ++ _ = _
          rw [er2, hb, if_neg (by decide), List.append_nil]
        rw [er3]
    · have hfull : i + 1 = pr ∧ S = r + 1 ∧ j = 0 := by
        have e : (opW f gen size 8).next = r * pr + (i + 1) := by rw [a7]; omega
        by_cases hlt : i + 1 < pr
        · exfalso
          apply hr
          rw [← hS, e, Nat.mul_comm, Nat.mul_add_div (by omega), Nat.div_eq_of_lt hlt, Nat.add_zero]
        · have hi : i + 1 = pr := by omega
          have e2 : (opW f gen size 8).next = (r + 1) * pr := by rw [e, hi, Nat.succ_mul]
          exact ⟨hi, by rw [← hS, e2]; exact Nat.mul_div_cancel _ (by omega), by rw [← hj, e2]; exact Nat.mul_mod_left _ _⟩
      obtain ⟨q1, q2, q3⟩ := hfull
      have hS8 : S < 8 := by rw [← hS]; exact Nat.div_lt_of_lt_mul (by rw [Nat.mul_comm]; exact hn)
      have hb := begins hS8 q3 (by rw [a7, q2, Nat.succ_mul, Nat.add_assoc, q1]) (by rw [a6]; intro e; exact hr (Int.ofNat.inj e).symm) (opW_skip 8 (by omega) fun s x y => a4 s (by omega) y) (fun s x y => a4 s (by omega) y)
      subst q3
      exact hb
theorem next_blank {f : Fl} {gen size S j : Nat} (h1 : 1 ≤ size) (h2 : size ≤ 16) (hS : (opW f gen size 8).next / (256 / (size + 13)) = S) (hj : (opW f gen size 8).next % (256 / (size + 13)) = j) (hr : (opW f gen size 8).ready = (S : Int)) : allFF (plAt (secB f S) (size + 13) j) = true := by
  have hp := per_bounds h1 h2
  rcases opW_state f gen size h1 h2 with ⟨a1, _⟩ | ⟨r, i, a1, a2, a3, a4, a5, a6, a7, a8⟩
  · rw [a1] at hr
    have : (-1 : Int) = (S : Int) := hr
    omega
  · have hrS : r = S := by rw [a6] at hr; omega
    subst hrS
    generalize 256 / (size + 13) = pr at *
    have hjl : j < pr := by rw [← hj]; exact Nat.mod_lt _ (by omega)
    have := Nat.div_add_mod (opW f gen size 8).next pr
    rw [hS, hj] at this
    have hc : pr * r = r * pr := Nat.mul_comm _ _
    exact a8 j (by omega) hjl
end Go.Proofs.YtoblapnnpjgpnaaGreatDoor
namespace Go.Proofs.YtoblapnnpjgpnaaGreatDoor
open Go.RowKit
theorem wrec_take4 (gen id : Nat) (d : List UInt8) : (wrec gen id d).take 4 = CrcM.four gen := by simp [wrec, CrcM.put, wmsg, CrcM.four]
theorem wrec_whole (gen id : Nat) (d : List UInt8) (hg : gen < 4294967296) : plB gen (wrec gen id d) = true := by
  apply decide_eq_true
  refine ⟨?_, ?_, ?_⟩
  · have e : (wrec gen id d).take ((wrec gen id d).length - 1) = CrcM.put (wmsg gen id d) := by unfold wrec; simp
    rw [e]; exact CrcM.put_right _
  · unfold wrec; simp [List.getD]
  · rw [wrec_take4]; exact CrcM.number_four gen hg
theorem wrec_rec (gen id : Nat) (d : List UInt8) (hid : id < 4294967296) : plR (wrec gen id d) = (id, d) := by
  unfold plR
  have e1 : ((wrec gen id d).drop 4).take 4 = CrcM.four id := by simp [wrec, CrcM.put, wmsg, CrcM.four]
  have e2 : ((wrec gen id d).take ((wrec gen id d).length - 5)).drop 8 = d := by
    rw [wrec_length, show d.length + 13 - 5 = d.length + 8 by omega]
    have e : wrec gen id d = wmsg gen id d ++ (CrcM.four (CrcM.sum (wmsg gen id d)) ++ [0]) := by simp [wrec, CrcM.put]
    rw [e, List.take_left' (wmsg_length gen id d)]
    simp [wmsg, CrcM.four]
  rw [e1, e2, CrcM.number_four id hid]
theorem last_no {gen : Nat} {p : List UInt8} (h : p.getD (p.length - 1) 0 ≠ 0) : plB gen p = false := by
  apply decide_eq_false
  rintro ⟨_, h2, _⟩
  exact h h2
theorem gen_no {gen : Nat} {p : List UInt8} (h : p.getD 0 0 = 255) (hp : 4 ≤ p.length) (hg : gen < 4278190080) : plB gen p = false := by
  apply decide_eq_false
  rintro ⟨_, _, h3⟩
  match p, hp with
  | x0 :: x1 :: x2 :: x3 :: t, _ =>
    have e : x0 = 255 := h
    subst e
    have e2 : CrcM.number (((255 : UInt8) :: x1 :: x2 :: x3 :: t).take 4) = (((255 : UInt8).toNat * 256 + x1.toNat) * 256 + x2.toNat) * 256 + x3.toNat := by simp [CrcM.number]
    rw [e2] at h3
    have e3 : (255 : UInt8).toNat = 255 := rfl
    rw [e3] at h3
    omega
/-- bytes outside sector S of the wheel are the same -/
def outS (f f' : Fl) (S : Nat) : Prop := ∀ i, i < 256 * (6 + S) ∨ 256 * (6 + S) + 256 ≤ i → f'.bs i = f.bs i
theorem outS.sec {f f' : Fl} {S s : Nat} (h : outS f f' S) (hs : s ≠ S) : secB f' s = secB f s := by
  unfold secB Fl.sub
  apply List.map_congr_left
  intro i hi
  have : i < 256 := by simpa using hi
  exact h _ (by omega)
theorem sub_congr {f f' : Fl} {a n : Nat} (h : ∀ q, q < n → f'.bs (a + q) = f.bs (a + q)) : f'.sub a n = f.sub a n := by
  unfold Fl.sub
  apply List.map_congr_left
  intro i hi
  exact h _ (by simpa using hi)
theorem sub_eq {f : Fl} {a n : Nat} {l : List UInt8} (hl : l.length = n) (h : ∀ q, q < n → f.bs (a + q) = l.getD q 0) : f.sub a n = l := by
  apply List.ext_getElem
  · rw [f.sub_length, hl]
  · intro i h1 h2
    rw [f.sub_length] at h1
    have := h i h1
    rw [List.getD_eq_getElem?_getD, List.getElem?_eq_getElem h2] at this
    simp only [Fl.sub, List.getElem_map, List.getElem_range]
    simpa using this
theorem sub_ff2 {f : Fl} {a n : Nat} (h : allFF (f.sub a n) = true) (q : Nat) (hq : q < n) : f.bs (a + q) = 255 := by
  have := allFF_get h q (by rw [f.sub_length]; exact hq) 0
  rwa [sub_get f a n q hq] at this
theorem begin_zero {f : Fl} {gen size S j : Nat} (h1 : 1 ≤ size) (h2 : size ≤ 16) (hS : (opW f gen size 8).next / (256 / (size + 13)) = S) (hj : (opW f gen size 8).next % (256 / (size + 13)) = j) (hr : (opW f gen size 8).ready ≠ (S : Int)) : j = 0 ∧ cntB f gen size S = false ∨ 8 ≤ S := by
  have hp := per_bounds h1 h2
  rcases opW_state f gen size h1 h2 with ⟨a1, a2⟩ | ⟨r, i, a1, a2, a3, a4, a5, a6, a7, a8⟩
  · have hn0 : (opW f gen size 8).next = 0 := by rw [a1]
    rw [hn0] at hS hj
    rw [Nat.zero_div] at hS
    rw [Nat.zero_mod] at hj
    subst hS
    exact .inl ⟨hj.symm, a2 0 (by omega)⟩
  · obtain ⟨pr, hpr⟩ : ∃ pr, 256 / (size + 13) = pr := ⟨_, rfl⟩
    rw [hpr] at hp a2 a7 hS hj
    have e : (opW f gen size 8).next = r * pr + (i + 1) := by rw [a7]; omega
    by_cases hlt : i + 1 < pr
    · exfalso
      apply hr
      rw [a6, ← hS, e, Nat.mul_comm, Nat.mul_add_div (by omega), Nat.div_eq_of_lt hlt, Nat.add_zero]
    · have hi : i + 1 = pr := by omega
      have e2 : (opW f gen size 8).next = (r + 1) * pr := by rw [e, hi, Nat.succ_mul]
      have hS2 : S = r + 1 := by rw [← hS, e2]; exact Nat.mul_div_cancel _ (by omega)
      by_cases h8 : S < 8
      · exact .inl ⟨by rw [← hj, e2]; exact Nat.mul_mod_left _ _, a4 S (by omega) h8⟩
      · exact .inr (by omega)
structure WEff (f f' : Fl) (S : Nat) (er : Nat → Int) : Prop where
  out : outS f f' S
  er : f'.er = er
  wear : f'.wear = f.wear
/-- what becomes of the erasures -/
def erW (f : Fl) (ready : Int) (S : Nat) : Nat → Int := if (S : Int) = ready ∨ allFF (secB f S) = true then f.er else erUp f.er (6 + S)
/-- f1: where the next place is blank; f2: where it is programmed, whole or torn -/
theorem prog_open {f f1 f2 : Fl} {gen size S j id : Nat} {d : List UInt8} (h1 : 1 ≤ size) (h2 : size ≤ 16) (hd : d.length = size) (hg : gen < 4294967296) (hid : id < 4294967296) (hn : (opW f gen size 8).next < 8 * (256 / (size + 13))) (hS : (opW f gen size 8).next / (256 / (size + 13)) = S) (hj : (opW f gen size 8).next % (256 / (size + 13)) = j)
    (hout : outS f f1 S) (hrdy : (opW f gen size 8).ready = (S : Int) → f1 = f) (hbeg : (opW f gen size 8).ready ≠ (S : Int) → ∀ q, q < 256 → f1.bs (256 * (6 + S) + q) = 255)
    (hother : ∀ i, i < 256 * (6 + S) + j * (size + 13) ∨ 256 * (6 + S) + j * (size + 13) + (size + 13) ≤ i → f2.bs i = f1.bs i)
    (hpl : f2.sub (256 * (6 + S) + j * (size + 13)) (size + 13) = wrec gen id d ∨ plB gen (f2.sub (256 * (6 + S) + j * (size + 13)) (size + 13)) = false) :
    (f2.sub (256 * (6 + S) + j * (size + 13)) (size + 13) = wrec gen id d → opW f2 gen size 8 = { opW f gen size 8 with L := (opW f gen size 8).L ++ [(id, d)], ready := (S : Int), next := (opW f gen size 8).next + 1 }) ∧
    ((opW f2 gen size 8).L = (opW f gen size 8).L ∨ (opW f2 gen size 8).L = (opW f gen size 8).L ++ [(id, d)]) ∧ outS f f2 S := by
  have hp := per_bounds h1 h2
  have hjl : j < 256 / (size + 13) := by rw [← hj]; exact Nat.mod_lt _ (by omega)
  have hjw : (j + 1) * (size + 13) ≤ 256 := Nat.le_trans (Nat.mul_le_mul_right _ hjl) hp.2.2
  have hjw2 : j * (size + 13) + (size + 13) ≤ 256 := by rw [Nat.succ_mul] at hjw; exact hjw
  have hout2 : outS f f2 S := fun i hi => by
    rw [hother i (by omega)]; exact hout i hi
  have hst := open_step (f := f) (f' := f2) (gen := gen) h1 h2 hn hS hj (fun s _ hs => hout2.sec hs)
    (fun hr i hi hij => by
      have hiw : (i + 1) * (size + 13) ≤ 256 := Nat.le_trans (Nat.mul_le_mul_right _ hi) hp.2.2
      rw [plAt_sub f2 S _ i hiw, plAt_sub f S _ i hiw]
      refine sub_congr fun q hq => ?_
      rw [hother _ ?_, hrdy hr]
      rcases Nat.lt_or_gt_of_ne hij with hlt | hlt
      · have := Nat.mul_le_mul_right (size + 13) hlt
        rw [Nat.succ_mul] at this
        omega
      · have := Nat.mul_le_mul_right (size + 13) hlt
        rw [Nat.succ_mul] at this
        omega)
    (fun hr _ i h0 hi => by
      have hiw : (i + 1) * (size + 13) ≤ 256 := Nat.le_trans (Nat.mul_le_mul_right _ hi) hp.2.2
      rw [plAt_sub f2 S _ i hiw]
      refine allFF_of fun q hq => ?_
      rw [f2.sub_length] at hq
      rw [sub_get _ _ _ _ hq]
      have hiw2 : i * (size + 13) + (size + 13) ≤ 256 := by rw [Nat.succ_mul] at hiw; exact hiw
      have hS8 : S < 8 := by rw [← hS]; exact Nat.div_lt_of_lt_mul (by rw [Nat.mul_comm]; exact hn)
      have hj0 : j = 0 := by
        rcases begin_zero h1 h2 hS hj hr with ⟨h, _⟩ | h
        · exact h
        · omega
      rw [hother _ ?_]
      · have := hbeg hr (i * (size + 13) + q) (by omega)
        rwa [← Nat.add_assoc] at this
      · right
        have := Nat.mul_le_mul_right (size + 13) h0
        rw [hj0]
        omega)
  rw [plAt_sub f2 S _ j hjw] at hst
  refine ⟨fun e => ?_, ?_, hout2⟩
  · have := hst.1 (by rw [e]; exact wrec_whole gen id d hg)
    rw [this, e, wrec_rec gen id d hid]
  · rcases hpl with e | e
    · right
      have := hst.1 (by rw [e]; exact wrec_whole gen id d hg)
      rw [this, e, wrec_rec gen id d hid]
    · exact .inl (hst.2 e)
end Go.Proofs.YtoblapnnpjgpnaaGreatDoor
namespace Go.Proofs.YtoblapnnpjgpnaaGreatDoor
open Go.RowKit
theorem prog_part {f f1 : Fl} {gen size S j id : Nat} {d : List UInt8} (h1 : 1 ≤ size) (h2 : size ≤ 16) (hd : d.length = size) (hg : gen < 4294967296) (hid : id < 4294967296) (hn : (opW f gen size 8).next < 8 * (256 / (size + 13))) (hS : (opW f gen size 8).next / (256 / (size + 13)) = S) (hj : (opW f gen size 8).next % (256 / (size + 13)) = j)
    (hout : outS f f1 S) (hrdy : (opW f gen size 8).ready = (S : Int) → f1 = f) (hbeg : (opW f gen size 8).ready ≠ (S : Int) → ∀ q, q < 256 → f1.bs (256 * (6 + S) + q) = 255) :
    (∃ f2, f1.prog (256 * (6 + S) + j * (size + 13)) (wrec gen id d) = (f2, 0) ∧ opW f2 gen size 8 = { opW f gen size 8 with L := (opW f gen size 8).L ++ [(id, d)], ready := (S : Int), next := (opW f gen size 8).next + 1 } ∧ outS f f2 S ∧ f2.er = f1.er ∧ f2.wear = f1.wear ∧ f2.down = f1.down ∧ (f1.there = false → f2.there = false) ∧ f2.steps = f1.steps + ((size + 13 : Nat) : Int)) ∨
    (f1.there = true ∧ ∃ f2, f1.prog (256 * (6 + S) + j * (size + 13)) (wrec gen id d) = (f2, 11) ∧ ((opW f2 gen size 8).L = (opW f gen size 8).L ∨ (opW f2 gen size 8).L = (opW f gen size 8).L ++ [(id, d)]) ∧ outS f f2 S ∧ f2.er = f1.er ∧ f2.wear = f1.wear ∧ f2.down = true ∧ f2.there = false) := by
  have hp := per_bounds h1 h2
  have hjl : j < 256 / (size + 13) := by rw [← hj]; exact Nat.mod_lt _ (by omega)
  have hjw : (j + 1) * (size + 13) ≤ 256 := Nat.le_trans (Nat.mul_le_mul_right _ hjl) hp.2.2
  have hjw2 : j * (size + 13) + (size + 13) ≤ 256 := by rw [Nat.succ_mul] at hjw; exact hjw
  have hwl := wrec_length gen id d
  rw [hd] at hwl
  have hbl : ∀ q, q < size + 13 → f1.bs (256 * (6 + S) + j * (size + 13) + q) = 255 := by
    intro q hq
    by_cases hr : (opW f gen size 8).ready = (S : Int)
    · rw [hrdy hr]
      have := next_blank h1 h2 hS hj hr
      rw [plAt_sub f S _ j hjw] at this
      exact sub_ff2 this q hq
    · have := hbeg hr (j * (size + 13) + q) (by omega)
      rwa [← Nat.add_assoc] at this
  generalize hat : 256 * (6 + S) + j * (size + 13) = at0 at *
  rcases prog_cases (wrec gen id d) f1 at0 with ⟨f2, a1, a2, a3, a4, a5, a6⟩ | ⟨a0, f2, k, tb, a1, a2, a3, a4, a5, a6⟩
  · left
    have hsub : f2.sub at0 (size + 13) = wrec gen id d := sub_eq hwl fun q hq => by
      rw [a2]
      unfold bsAll
      rw [if_pos (by omega), hbl q hq, u8_ff, Nat.add_sub_cancel_left]
    have hoth : ∀ i, i < at0 ∨ at0 + (size + 13) ≤ i → f2.bs i = f1.bs i := fun i hi => by
      rw [a2]; unfold bsAll; rw [if_neg (by omega)]
    have ho := prog_open (f2 := f2) (id := id) (d := d) h1 h2 hd hg hid hn hS hj hout hrdy hbeg (by rw [hat]; exact hoth) (by rw [hat]; exact .inl hsub)
    rw [hat] at ho
    exact ⟨f2, a1, ho.1 hsub, ho.2.2, a3.er, a3.wear, a5, a6, by rw [a4, hwl]⟩
  · right
    rw [hwl] at a1
    have hget : ∀ q, q < size + 13 → (f2.sub at0 (size + 13)).getD q 0 = if q < k then (wrec gen id d).getD q 0 else if q = k then (wrec gen id d).getD k 0 ||| tb else 255 := by
      intro q hq
      rw [sub_get _ _ _ _ hq, a3]
      unfold bsTorn
      by_cases e1 : q < k
      · rw [if_pos (by omega), if_pos e1, hbl q hq, u8_ff, Nat.add_sub_cancel_left]
      · rw [if_neg (by omega), if_neg e1]
        by_cases e2 : q = k
        · rw [if_pos (by omega), if_pos e2, hbl q hq, u8_ff]
        · rw [if_neg (by omega), if_neg e2, hbl q hq]
    have hlast : (wrec gen id d).getD (size + 12) 0 = 0 := by
      unfold wrec
      simp [List.getD, CrcM.put_length, wmsg_length, hd]
    have hpl : f2.sub at0 (size + 13) = wrec gen id d ∨ plB gen (f2.sub at0 (size + 13)) = false := by
      by_cases hk : k = size + 12
      · by_cases ht : tb = 0
        · left
          refine sub_eq hwl fun q hq => ?_
          have := hget q hq
          rw [sub_get _ _ _ _ hq] at this
          rw [this]
          by_cases e1 : q < k
          · rw [if_pos e1]
          · rw [if_neg e1, if_pos (by omega), ht, hk, hlast, show q = size + 12 by omega, hlast]; decide
        · right
          apply last_no
          rw [f2.sub_length, show size + 13 - 1 = size + 12 by omega, hget _ (by omega), if_neg (by omega), if_pos hk.symm, hk, hlast]
          intro e
          apply ht
          apply UInt8.toNat.inj
          have := congrArg UInt8.toNat e
          simpa using this
      · right
        apply last_no
        rw [f2.sub_length, show size + 13 - 1 = size + 12 by omega, hget _ (by omega), if_neg (by omega), if_neg (by omega)]
        decide
    have hoth : ∀ i, i < at0 ∨ at0 + (size + 13) ≤ i → f2.bs i = f1.bs i := fun i hi => by
      rw [a3]; unfold bsTorn; rw [if_neg (by omega), if_neg (by omega)]
    have ho := prog_open (f2 := f2) (id := id) (d := d) h1 h2 hd hg hid hn hS hj hout hrdy hbeg (by rw [hat]; exact hoth) (by rw [hat]; exact hpl)
    exact ⟨a0, f2, a2, ho.2.1, ho.2.2, a4.er, a4.wear, a5, a6⟩
theorem add_form (x : Wh) (f : Fl) (id S j : Nat) (d : List UInt8) (hd : d.length = x.size) (hdn : f.down = false) (hn : x.next < 8 * (256 / (x.size + 13))) (hS : x.next / (256 / (x.size + 13)) = S) (hj : x.next % (256 / (x.size + 13)) = j) :
    x.add f id d = if (f.prepW x.ready S).2 = 0 then
      if ((f.prepW x.ready S).1.prog (256 * (6 + S) + j * (x.size + 13)) (wrec x.gen id d)).2 = 0 then
        ({ x with L := x.L ++ [(id, d)], ready := (S : Int), next := x.next + 1 }, ((f.prepW x.ready S).1.prog (256 * (6 + S) + j * (x.size + 13)) (wrec x.gen id d)).1, 0)
      else ({ x with ready := (S : Int) }, (f.prepW x.ready S).1.prog (256 * (6 + S) + j * (x.size + 13)) (wrec x.gen id d))
      else (x, f.prepW x.ready S) := by
  unfold Wh.add Wh.at_ Wh.wide Wh.per
  rw [if_pos hd, if_neg (by omega), if_neg (by rw [hdn]; decide), hS, hj]
theorem add_cases {f : Fl} {gen size S j id : Nat} {d : List UInt8} (h1 : 1 ≤ size) (h2 : size ≤ 16) (hd : d.length = size) (hg : gen < 4278190080) (hid : id < 4294967296) (hdn : f.down = false) (hn : (opW f gen size 8).next < 8 * (256 / (size + 13))) (hS : (opW f gen size 8).next / (256 / (size + 13)) = S) (hj : (opW f gen size 8).next % (256 / (size + 13)) = j) :
    (∃ f2, (opW f gen size 8).add f id d = (opW f2 gen size 8, f2, 0) ∧ opW f2 gen size 8 = { opW f gen size 8 with L := (opW f gen size 8).L ++ [(id, d)], ready := (S : Int), next := (opW f gen size 8).next + 1 } ∧ WEff f f2 S (erW f (opW f gen size 8).ready S) ∧ f2.down = false ∧ (f.there = false → f2.there = false)) ∨
    (f.there = true ∧ ∃ hx f2, (opW f gen size 8).add f id d = (hx, f2, 11) ∧ ((opW f2 gen size 8).L = (opW f gen size 8).L ∨ (opW f2 gen size 8).L = (opW f gen size 8).L ++ [(id, d)]) ∧ WEff f f2 S (erW f (opW f gen size 8).ready S) ∧ f2.down = true ∧ f2.there = false) ∨
    ((opW f gen size 8).add f id d = (opW f gen size 8, f, 10) ∧ f.wear ≤ f.er (6 + S) ∧ (opW f gen size 8).ready ≠ (S : Int) ∧ allFF (secB f S) = false) := by
  have e1 := opW_gen f gen size 8
  have e2 := opW_size f gen size 8
  have hS8 : S < 8 := by rw [← hS]; exact Nat.div_lt_of_lt_mul (by rw [Nat.mul_comm]; exact hn)
  have hp := per_bounds h1 h2
  have hjl : j < 256 / (size + 13) := by rw [← hj]; exact Nat.mod_lt _ (by omega)
  have hjw : (j + 1) * (size + 13) ≤ 256 := Nat.le_trans (Nat.mul_le_mul_right _ hjl) hp.2.2
  have hadd := add_form (opW f gen size 8) f id S j d (by rw [e2]; exact hd) hdn (by rw [e2]; exact hn) (by rw [e2]; exact hS) (by rw [e2]; exact hj)
  simp only [e1, e2] at hadd
  have hsec : allFF (f.sub (256 * (6 + S)) 256) = allFF (secB f S) := rfl
  -- where the place is made ready
  have fin : ∀ f1 : Fl, f.prepW (opW f gen size 8).ready S = (f1, 0) → outS f f1 S → ((opW f gen size 8).ready = (S : Int) → f1 = f) → ((opW f gen size 8).ready ≠ (S : Int) → ∀ q, q < 256 → f1.bs (256 * (6 + S) + q) = 255) → f1.er = erW f (opW f gen size 8).ready S → f1.wear = f.wear → f1.down = false → (f.there = false → f1.there = false) → _ :=
    fun f1 hpr ho hr hb her hw hdn1 hth => by
      rw [hpr] at hadd
      rw [if_pos rfl] at hadd
      dsimp only at hadd
      have hee : ({ gen := gen, size := size, L := (opW f gen size 8).L ++ [(id, d)], ready := (S : Int), next := (opW f gen size 8).next + 1 } : Wh) = { opW f gen size 8 with L := (opW f gen size 8).L ++ [(id, d)], ready := (S : Int), next := (opW f gen size 8).next + 1 } := by
        show _ = (⟨(opW f gen size 8).gen, (opW f gen size 8).size, _, _, _⟩ : Wh)
        rw [e1, e2]
      rw [hee] at hadd
      refine (?_ : (∃ f2, (opW f gen size 8).add f id d = (opW f2 gen size 8, f2, 0) ∧ opW f2 gen size 8 = { opW f gen size 8 with L := (opW f gen size 8).L ++ [(id, d)], ready := (S : Int), next := (opW f gen size 8).next + 1 } ∧ WEff f f2 S (erW f (opW f gen size 8).ready S) ∧ f2.down = false ∧ (f.there = false → f2.there = false)) ∨
        (f.there = true ∧ ∃ hx f2, (opW f gen size 8).add f id d = (hx, f2, 11) ∧ ((opW f2 gen size 8).L = (opW f gen size 8).L ∨ (opW f2 gen size 8).L = (opW f gen size 8).L ++ [(id, d)]) ∧ WEff f f2 S (erW f (opW f gen size 8).ready S) ∧ f2.down = true ∧ f2.there = false) ∨
        ((opW f gen size 8).add f id d = (opW f gen size 8, f, 10) ∧ f.wear ≤ f.er (6 + S) ∧ (opW f gen size 8).ready ≠ (S : Int) ∧ allFF (secB f S) = false))
      rcases prog_part (f := f) (f1 := f1) (id := id) (d := d) h1 h2 hd (by omega) hid hn hS hj ho hr hb with ⟨f2, b1, b2, b3, b4, b5, b6, b7, _⟩ | ⟨b0, f2, b1, b2, b3, b4, b5, b6, b7⟩
      · rw [b1, if_pos rfl] at hadd
        exact .inl ⟨f2, by rw [hadd, b2], b2, ⟨b3, b4.trans her, b5.trans hw⟩, b6.trans hdn1, fun h => b7 (hth h)⟩
      · rw [b1, if_neg (show ¬ (11 : Int) = 0 by decide)] at hadd
        refine .inr (.inl ⟨?_, _, f2, hadd, b2, ⟨b3, b4.trans her, b5.trans hw⟩, b6, b7⟩)
        cases h : f.there with
        | true => rfl
        | false => rw [hth h] at b0; cases b0
  by_cases hr : (S : Int) = (opW f gen size 8).ready
  · exact fin f (by unfold Fl.prepW; rw [if_pos hr]) (fun _ _ => rfl) (fun _ => rfl) (fun h => absurd hr.symm h) (by unfold erW; rw [if_pos (.inl hr)]) rfl hdn (fun h => h)
  · by_cases hff : allFF (secB f S) = true
    · exact fin f (by unfold Fl.prepW; rw [if_neg hr, hsec, if_pos hff]) (fun _ _ => rfl) (fun h => absurd h.symm hr) (fun _ q hq => sub_ff2 hff q hq) (by unfold erW; rw [if_pos (.inr hff)]) rfl hdn (fun h => h)
    · have hff : allFF (secB f S) = false := by simpa using hff
      have hpw : f.prepW (opW f gen size 8).ready S = f.erase (6 + S) := by
        unfold Fl.prepW
        rw [if_neg hr, if_neg (by rw [show allFF (f.sub (256 * (6 + S)) 256) = false from hff]; decide)]
      have her : erW f (opW f gen size 8).ready S = erUp f.er (6 + S) := by unfold erW; rw [if_neg (by rw [hff]; simp [hr])]
      by_cases hw : f.er (6 + S) < f.wear
      · rcases erase_cases f (6 + S) hw with ⟨f1, c1, c2, c3, c4, c5, c6, c7⟩ | ⟨c0, f1, t, c1, c2, c3, c4, c5, c6, c7⟩
        · exact fin f1 (hpw.trans c1) (fun i hi => by rw [c2]; exact if_neg (by omega)) (fun h => absurd h.symm hr) (fun _ q hq => by rw [c2]; exact if_pos (by omega)) (c3.trans her.symm) c4 (c6.trans hdn) c7
        · rw [hpw, c2] at hadd
          rw [if_neg (show ¬ (11 : Int) = 0 by decide)] at hadd
          have hout : outS f f1 S := fun i hi => by rw [c3]; exact if_neg (by omega)
          refine .inr (.inl ⟨c0, _, f1, hadd, .inl ?_, ⟨hout, c4.trans her.symm, c5⟩, c6, c7⟩)
          have hbz := begin_zero h1 h2 hS hj (fun h => hr h.symm)
          have hbz2 : j = 0 ∧ cntB f gen size S = false := by
            rcases hbz with h | h
            · exact h
            · omega
          obtain ⟨hj0, hcn⟩ := hbz2
          have hpl0 : plB gen (plAt (secB f1 S) (size + 13) j) = false := by
            rw [plAt_sub f1 S _ j hjw]
            by_cases ht : t = 0
            · have e : f1.sub (256 * (6 + S) + j * (size + 13)) (size + 13) = f.sub (256 * (6 + S) + j * (size + 13)) (size + 13) := sub_congr fun q _ => by rw [c3]; exact if_neg (by omega)
              rw [e, ← plAt_sub f S _ j hjw, hj0]
              exact hcn
            · refine gen_no ?_ (by rw [f1.sub_length]; omega) hg
              rw [sub_get _ _ _ _ (by omega), c3, hj0]
              exact if_pos (by omega)
          exact (open_step (f := f) (f' := f1) (gen := gen) h1 h2 hn hS hj (fun s _ hs => hout.sec hs) (fun h => absurd h.symm hr) (fun _ h => by rw [hpl0] at h; cases h)).2 hpl0
      · have e : f.erase (6 + S) = (f, 10) := by unfold Fl.erase; rw [if_pos (by omega)]
        rw [hpw, e, if_neg (show ¬ (10 : Int) = 0 by decide)] at hadd
        refine .inr (.inr ⟨hadd, by omega, fun h => hr h.symm, hff⟩)
end Go.Proofs.YtoblapnnpjgpnaaGreatDoor
