/- Two bytes side by side of a text with its sum, changed: it is right just if neither was. -/
import Derived.Test.YtekaoodagaplmaaCrcMath
namespace Go.Proofs.Ytekaoodagaplmaa
namespace CrcM
def put (l : List UInt8) : List UInt8 := l ++ four (sum l)
def right (l : List UInt8) : Prop := 4 ≤ l.length ∧ sum (l.take (l.length - 4)) = number (l.drop (l.length - 4))
theorem put_length (l : List UInt8) : (put l).length = l.length + 4 := by simp [put, four]
theorem put_take (l : List UInt8) : (put l).take ((put l).length - 4) = l := by
  rw [put_length, show l.length + 4 - 4 = l.length by omega, put, List.take_left]
theorem put_right (l : List UInt8) : right (put l) := by
  refine ⟨by rw [put_length]; omega, ?_⟩
  rw [put_take, put_length, show l.length + 4 - 4 = l.length by omega, put, List.drop_left, number_four _ (sum_lt l)]
/-- byte i changed by x -/
def bend (p : List UInt8) (i : Nat) (x : UInt8) : List UInt8 := p.set i (p.getD i 0 ^^^ x)
theorem bend_length (p : List UInt8) (i : Nat) (x : UInt8) : (bend p i x).length = p.length := by simp [bend]
theorem bend_next (p : List UInt8) (i : Nat) (x : UInt8) : (bend p i x).getD (i + 1) 0 = p.getD (i + 1) 0 := by
  simp [bend, List.getD]
theorem bend_at (a s : List UInt8) (u x : UInt8) : bend (a ++ u :: s) a.length x = a ++ (u ^^^ x) :: s := by
  simp [bend]
theorem bend_two (a s : List UInt8) (u v x y : UInt8) : bend (bend (a ++ u :: v :: s) a.length x) (a.length + 1) y = a ++ (u ^^^ x) :: (v ^^^ y) :: s := by
  rw [bend_at]
  have := bend_at (a ++ [u ^^^ x]) s v y
  simpa using this
theorem split_two (p : List UInt8) (i : Nat) (h : i + 1 < p.length) : ∃ a u v s, p = a ++ u :: v :: s ∧ a.length = i := by
  refine ⟨p.take i, p[i], p[i + 1], p.drop (i + 2), ?_, by simp; omega⟩
  rw [← List.drop_eq_getElem_cons h, ← List.drop_eq_getElem_cons (by omega), List.take_append_drop]
theorem right_iff (a b : List UInt8) (h : b.length = 4) : right (a ++ b) ↔ sum a = number b := by
  unfold right
  rw [List.length_append, h, show a.length + 4 - 4 = a.length by omega, List.take_left, List.drop_left]
  exact ⟨fun h => h.2, fun h => ⟨by omega, h⟩⟩
theorem u8_same (u x : UInt8) (h : u = u ^^^ x) : x = 0 := u8_xor_zero u x h.symm
theorem tells (l : List UInt8) (i : Nat) (hi : i + 1 < l.length + 4) (x y : UInt8) : right (bend (bend (put l) i x) (i + 1) y) ↔ x = 0 ∧ y = 0 := by
  have hf : (four (sum l)).length = 4 := rfl
  have hnum := number_four (sum l) (sum_lt l)
  generalize hfour : four (sum l) = f at hf hnum
  constructor
  · intro h
    by_cases h1 : i + 1 < l.length
    · obtain ⟨a, u, v, s, rfl, rfl⟩ := split_two l i h1
      unfold put at h
      rw [hfour, show a ++ u :: v :: s ++ f = a ++ u :: v :: (s ++ f) by simp, bend_two, show a ++ (u ^^^ x) :: (v ^^^ y) :: (s ++ f) = (a ++ (u ^^^ x) :: (v ^^^ y) :: s) ++ f by simp, right_iff _ _ hf, hnum] at h
      have e := (sum_inj a [u ^^^ x, v ^^^ y] [u, v] s).1 (by simpa using h)
      obtain ⟨e1, e2⟩ := reg2_diff _ _ _ _ _ e
      exact ⟨u8_xor_zero u x e1, u8_xor_zero v y e2⟩
    · match f, hf with
      | [f0, f1, f2, f3], _ =>
        by_cases h2 : i + 1 = l.length
        · obtain ⟨a, u, rfl⟩ : ∃ a u, l = a ++ [u] := ⟨l.take i, l[i], by rw [← List.take_succ_eq_append_getElem (by omega), List.take_of_length_le (by omega)]⟩
          have hai : i = a.length := by simp at h2; omega
          subst hai
          unfold put at h
          rw [hfour, show a ++ [u] ++ [f0, f1, f2, f3] = a ++ u :: f0 :: [f1, f2, f3] by simp, bend_two, show a ++ (u ^^^ x) :: (f0 ^^^ y) :: [f1, f2, f3] = (a ++ [u ^^^ x]) ++ [f0 ^^^ y, f1, f2, f3] by simp, right_iff _ _ rfl] at h
          have e0 : reg (reg full a) [u] ^^^ full = number [f0, f1, f2, f3] := by rw [hnum, ← reg_append]; unfold sum add; rw [Nat.zero_xor]
          have e1 : reg (reg full a) [u ^^^ x] ^^^ full = number [f0 ^^^ y, f1, f2, f3] := by rw [← h, ← reg_append]; unfold sum add; rw [Nat.zero_xor]
          obtain ⟨k1, k2⟩ := edge _ _ _ _ _ _ _ _ e0 e1
          exact ⟨u8_same u x k1, u8_same f0 y k2⟩
        · obtain ⟨j, rfl⟩ : ∃ j, i = l.length + j := ⟨i - l.length, by omega⟩
          unfold put at h
          rw [hfour] at h
          match j, hi with
          | 0, _ =>
            rw [show l.length + 0 = l.length from rfl, bend_two, right_iff _ _ rfl, ← hnum] at h
            obtain ⟨k1, k2, _⟩ := number_inj _ _ _ _ _ _ _ _ h
            exact ⟨u8_same f0 x k1, u8_same f1 y k2⟩
          | 1, _ =>
            rw [show l ++ [f0, f1, f2, f3] = (l ++ [f0]) ++ f1 :: f2 :: [f3] by simp, show l.length + 1 = (l ++ [f0]).length by simp, bend_two, show l ++ [f0] ++ (f1 ^^^ x) :: (f2 ^^^ y) :: [f3] = l ++ [f0, f1 ^^^ x, f2 ^^^ y, f3] by simp, right_iff _ _ rfl, ← hnum] at h
            obtain ⟨_, k1, k2, _⟩ := number_inj _ _ _ _ _ _ _ _ h
            exact ⟨u8_same f1 x k1, u8_same f2 y k2⟩
          | 2, _ =>
            rw [show l ++ [f0, f1, f2, f3] = (l ++ [f0, f1]) ++ f2 :: f3 :: [] by simp, show l.length + 2 = (l ++ [f0, f1]).length by simp, bend_two, show l ++ [f0, f1] ++ (f2 ^^^ x) :: (f3 ^^^ y) :: [] = l ++ [f0, f1, f2 ^^^ x, f3 ^^^ y] by simp, right_iff _ _ rfl, ← hnum] at h
            obtain ⟨_, _, k1, k2⟩ := number_inj _ _ _ _ _ _ _ _ h
            exact ⟨u8_same f2 x k1, u8_same f3 y k2⟩
          | j + 3, hi => omega
  · rintro ⟨rfl, rfl⟩
    have hb : ∀ (p : List UInt8) (k : Nat), k < p.length → bend p k 0 = p := by
      intro p k hk
      unfold bend
      have e : p.getD k 0 = p[k] := by simp [List.getD, hk]
      rw [u8_xor_id, e, List.set_getElem_self]
    rw [hb _ _ (by rw [bend_length, put_length]; omega), hb _ _ (by rw [put_length]; omega)]
    exact put_right l
/-- bytes from i on changed by the first k of ds -/
def bendTo (p : List UInt8) (i : Nat) (ds : List UInt8) : Nat → List UInt8
  | 0 => p
  | k + 1 => bend (bendTo p i ds k) (i + k) (ds.getD k 0)
theorem bendTo_length (p : List UInt8) (i : Nat) (ds : List UInt8) (k : Nat) : (bendTo p i ds k).length = p.length := by
  induction k with
  | zero => rfl
  | succ k ih => show (bend _ _ _).length = _; rw [bend_length, ih]
theorem bendTo_four (a s : List UInt8) (u0 u1 u2 u3 d0 d1 d2 d3 : UInt8) :
    bendTo (a ++ u0 :: u1 :: u2 :: u3 :: s) a.length [d0, d1, d2, d3] 4 = a ++ [u0 ^^^ d0, u1 ^^^ d1, u2 ^^^ d2, u3 ^^^ d3] ++ s := by
  show bend (bend (bend (bend (a ++ u0 :: u1 :: u2 :: u3 :: s) (a.length + 0) d0) (a.length + 1) d1) (a.length + 2) d2) (a.length + 3) d3 = _
  rw [Nat.add_zero, bend_two]
  have := bend_two (a ++ [u0 ^^^ d0, u1 ^^^ d1]) s u2 u3 d2 d3
  simpa using this
theorem split_four (p : List UInt8) (i : Nat) (h : i + 4 ≤ p.length) : ∃ a u0 u1 u2 u3 s, p = a ++ u0 :: u1 :: u2 :: u3 :: s ∧ a.length = i := by
  refine ⟨p.take i, p[i], p[i + 1], p[i + 2], p[i + 3], p.drop (i + 4), ?_, by simp; omega⟩
  rw [← List.drop_eq_getElem_cons (by omega), ← List.drop_eq_getElem_cons (by omega), ← List.drop_eq_getElem_cons (by omega), ← List.drop_eq_getElem_cons (by omega), List.take_append_drop]
theorem bursts (l : List UInt8) (i : Nat) (hi : i + 4 ≤ l.length) (d0 d1 d2 d3 : UInt8) :
    sum (bendTo l i [d0, d1, d2, d3] 4) = sum l ↔ d0 = 0 ∧ d1 = 0 ∧ d2 = 0 ∧ d3 = 0 := by
  obtain ⟨a, u0, u1, u2, u3, s, rfl, rfl⟩ := split_four l i hi
  rw [bendTo_four]
  constructor
  · intro h
    have e := (sum_inj a [u0 ^^^ d0, u1 ^^^ d1, u2 ^^^ d2, u3 ^^^ d3] [u0, u1, u2, u3] s).1 (by simpa using h)
    obtain ⟨e0, e1, e2, e3⟩ := reg4_diff _ _ _ _ _ _ _ _ _ e
    exact ⟨u8_xor_zero _ _ e0, u8_xor_zero _ _ e1, u8_xor_zero _ _ e2, u8_xor_zero _ _ e3⟩
  · rintro ⟨rfl, rfl, rfl, rfl⟩
    rw [u8_xor_id, u8_xor_id, u8_xor_id, u8_xor_id]
    simp
end CrcM
end Go.Proofs.Ytekaoodagaplmaa
