/- Several rows of bits at once: what each call of vec does to all of them. -/
import Derived.Test.YtgeodhffgbhmaaaDoorVecBytes
namespace Go.Proofs.YtgeodhffgbhmaaaDoor.Vc
open Go.RowKit
open VecM
structure VV where
  g : Nat
  h : Nat
  n : Nat
  X : Nat
/-- since world w0 the rows l were made, and nothing else that was there has changed -/
structure Bag (w0 w : World) (l : List VV) : Prop where
  below : Below w0.heap.size w0 w
  tab : DTab w0
  at_ : ∀ (i g h n X : Nat), l[i]? = some (⟨g, h, n, X⟩ : VV) → VecAt w g h n X ∧ w0.heap.size ≤ g ∧ w0.heap.size ≤ h
  apart : ∀ (i j : Nat) (a b : VV), i ≠ j → l[i]? = some a → l[j]? = some b → a.g ≠ b.h ∧ a.h ≠ b.h
section
variable {w0 w w' : World} {l : List VV} {g h n X i g' h' n' Y j : Nat}
theorem Bag.start (w0 : World) (ht : DTab w0) : Bag w0 w0 [] := ⟨Below.refl _ _, ht, fun i g h n X hi => (by cases i <;> cases hi), fun i j a b _ hi => (by cases i <;> cases hi)⟩
theorem Bag.dtab (b : Bag w0 w l) : DTab w := b.tab.grow b.below
theorem Bag.read (b : Bag w0 w l) (hb : Below w.heap.size w w') : Bag w0 w' l :=
  ⟨b.below.trans (hb.mono b.below.size), b.tab, fun i g h n X hi => ⟨(b.at_ i g h n X hi).1.below hb, (b.at_ i g h n X hi).2⟩, b.apart⟩
theorem Bag.add (b : Bag w0 w l) (hb : Below w.heap.size w w') (hg : w.heap.size ≤ g) (hh : w.heap.size ≤ h) (v : VecAt w' g h n X) : Bag w0 w' (l ++ [⟨g, h, n, X⟩]) := by
  have hs := b.below.size
  refine ⟨b.below.trans (hb.mono hs), b.tab, fun i g1 h1 n1 X1 hi => ?_, fun i j a c hij hi hj => ?_⟩
  · by_cases e : i < l.length
    · rw [List.getElem?_append_left e] at hi
      exact ⟨(b.at_ i g1 h1 n1 X1 hi).1.below hb, (b.at_ i g1 h1 n1 X1 hi).2⟩
    · rw [List.getElem?_append_right (by omega)] at hi
      have e2 : i - l.length = 0 := by
        rcases Nat.eq_zero_or_pos (i - l.length) with h0 | h0
        · exact h0
        · rw [List.getElem?_eq_none (by simp; omega)] at hi; cases hi
      rw [e2] at hi
      injection hi with hi
      injection hi with a1 a2 a3 a4
      subst a1 a2 a3 a4
      exact ⟨v, by omega, by omega⟩
  · have key : ∀ i a, (l ++ [(⟨g, h, n, X⟩ : VV)])[i]? = some a → (i < l.length ∧ l[i]? = some a ∧ a.g < w.heap.size ∧ a.h < w.heap.size) ∨ (i = l.length ∧ a = ⟨g, h, n, X⟩) := by
      intro i a hi
      by_cases e : i < l.length
      · rw [List.getElem?_append_left e] at hi
        obtain ⟨g1, h1, n1, X1⟩ := a
        have := (b.at_ i g1 h1 n1 X1 hi).1.lt
        exact .inl ⟨e, hi, this⟩
      · right
        rw [List.getElem?_append_right (by omega)] at hi
        have e2 : i - l.length = 0 := by
          rcases Nat.eq_zero_or_pos (i - l.length) with h0 | h0
          · exact h0
          · rw [List.getElem?_eq_none (by simp; omega)] at hi; cases hi
        rw [e2] at hi
        injection hi with hi
        exact ⟨by omega, hi.symm⟩
    rcases key i a hi with ⟨_, hi, h1, h2⟩ | ⟨rfl, rfl⟩ <;> rcases key j c hj with ⟨_, hj, h3, h4⟩ | ⟨rfl, rfl⟩
    · exact b.apart i j a c hij hi hj
    · exact ⟨by show a.g ≠ h; omega, by show a.h ≠ h; omega⟩
    · exact ⟨by show g ≠ c.h; omega, by show h ≠ c.h; omega⟩
    · exact absurd rfl hij
theorem set_get (l : List VV) (i j : Nat) (v u : VV) (hi : l[i]? = some v) : (l.set i u)[j]? = if i = j then some u else l[j]? := by
  rw [List.getElem?_set]
  by_cases e : i = j
  · subst e; rw [if_pos rfl, if_pos rfl, if_pos (List.getElem?_eq_some_iff.1 hi).1]
  · rw [if_neg e, if_neg e]
theorem Bag.write (b : Bag w0 w l) (hi : l[i]? = some ⟨g, h, n, X⟩) (hg : w.grownBy w' (some h)) (v : VecAt w' g h n Y) : Bag w0 w' (l.set i ⟨g, h, n, Y⟩) := by
  obtain ⟨_, hgl, hhl⟩ := b.at_ i g h n X hi
  refine ⟨b.below.grown hg b.below.size (by intro k hk; injection hk with hk; omega), b.tab, fun j g1 h1 n1 X1 hj => ?_, fun j k a c hjk hj hk => ?_⟩
  · rw [set_get l i j _ _ hi] at hj
    by_cases e : i = j
    · rw [if_pos e] at hj
      injection hj with hj
      injection hj with a1 a2 a3 a4
      subst a1 a2 a3 a4
      exact ⟨v, hgl, hhl⟩
    · rw [if_neg e] at hj
      have a1 := b.at_ j g1 h1 n1 X1 hj
      have a2 := b.apart j i _ _ (fun e' => e e'.symm) hj hi
      exact ⟨a1.1.grown hg (fun e => a2.1 e.symm) (fun e => a2.2 e.symm), a1.2⟩
  · rw [set_get l i j _ _ hi] at hj
    rw [set_get l i k _ _ hi] at hk
    have old : ∀ j a, (if i = j then some (⟨g, h, n, Y⟩ : VV) else l[j]?) = some a → ∃ a', l[j]? = some a' ∧ a'.g = a.g ∧ a'.h = a.h := by
      intro j a hj
      by_cases e : i = j
      · subst e
        rw [if_pos rfl] at hj
        injection hj with hj
        subst hj
        exact ⟨_, hi, rfl, rfl⟩
      · rw [if_neg e] at hj
        exact ⟨a, hj, rfl, rfl⟩
    obtain ⟨a', ha, e1, e2⟩ := old j a hj
    obtain ⟨c', hc, e3, e4⟩ := old k c hk
    have := b.apart j k a' c' hjk ha hc
    rw [← e1, ← e2, ← e4]
    exact this
theorem drew_below (w : World) (q : Nat) : Below w.heap.size w (w.drewN q) := ⟨rfl, rfl, rfl, Nat.le_refl _, fun _ _ => rfl⟩
/-- a call that told a boolean and drew -/
theorem bag_QB {f : FuncId} {args : Array Value} {B : Bool} (b : Bag w0 w l) (hc : Calls Tryd.prog f args w (QB B w)) : Calls Tryd.prog f args w fun e w' => e = .returned (.bool B) ∧ Hid (Bag w0 w' l) :=
  hc.mono fun e w' ⟨he, q, hq⟩ => ⟨he, by subst hq; exact b.read (drew_below w q)⟩
theorem bag_quiet {f : FuncId} {args : Array Value} {v : Value} (b : Bag w0 w l) (hc : Calls Tryd.prog f args w fun e w' => e = .returned v ∧ w = w') : Calls Tryd.prog f args w fun e w' => e = .returned v ∧ Hid (Bag w0 w' l) :=
  hc.mono fun e w' ⟨he, hq⟩ => ⟨he, by subst hq; exact b⟩
def OfBag (w0 : World) (l : List VV) (n X : Nat) (e : Ending) (w' : World) : Prop := ∃ g h, e = .returned (.pointer (some ⟨g, 0, none⟩)) ∧ Hid (Bag w0 w' (l ++ [⟨g, h, n, X⟩]))
theorem bag_Of {f : FuncId} {args : Array Value} (b : Bag w0 w l) (hc : Calls Tryd.prog f args w (OfOk n X w)) : Calls Tryd.prog f args w (OfBag w0 l n X) :=
  hc.mono fun e w' ⟨g, h, he, h1, h2, hv, hb⟩ => ⟨g, h, he, b.add hb.out h1 h2 hv.out⟩
theorem bag_new (b : Bag w0 w l) (hn : n ≤ 256) : Calls Tryd.prog 25 #[.int .i64 (n : Int)] w (OfBag w0 l n 0) :=
  (new_ok n w hn).mono fun e w' ⟨g, h, he, h1, h2, hv, hb⟩ => ⟨g, h, he, b.add hb.out h1 h2 hv.out⟩
theorem bag_of {A : Option Addr} {m c : Nat} {zs : List Int} (b : Bag w0 w l) (hr : Row w0 w0.heap.size A m (nv zs)) (hm : m ≤ 4611686018427387904) (hn : n ≤ 256) : Calls Tryd.prog 10 #[.int .i64 (n : Int), .slice A m c] w (OfBag w0 l n (ofL n zs)) :=
  bag_Of b (of_any n A m c w0.heap.size zs w (hr.below b.below) b.below.size hm hn)
theorem bag_ofw {A : Option Addr} {m c : Nat} {zs : List Int} (b : Bag w0 w l) (hr : Row w w.heap.size A m (nv zs)) (hm : m ≤ 4611686018427387904) (hn : n ≤ 256) : Calls Tryd.prog 10 #[.int .i64 (n : Int), .slice A m c] w (OfBag w0 l n (ofL n zs)) :=
  bag_Of b (of_any n A m c w.heap.size zs w hr (Nat.le_refl _) hm hn)
theorem bag_copy (i : Nat) (b : Bag w0 w l) (hi : l[i]? = some ⟨g, h, n, X⟩) : Calls Tryd.prog 60 #[.pointer (some ⟨g, 0, none⟩)] w (OfBag w0 l n X) :=
  bag_Of b (copy_any g h n X w (b.at_ i g h n X hi).1)
theorem bag_len (i : Nat) (b : Bag w0 w l) (hi : l[i]? = some ⟨g, h, n, X⟩) : Calls Tryd.prog 28 #[.pointer (some ⟨g, 0, none⟩)] w fun e w' => e = .returned (.int .i64 (n : Int)) ∧ Hid (Bag w0 w' l) :=
  bag_quiet b (len_any g h n X w (b.at_ i g h n X hi).1)
theorem bag_has (i : Nat) (b : Bag w0 w l) (hi : l[i]? = some ⟨g, h, n, X⟩) (hj : j < n) : Calls Tryd.prog 33 #[.pointer (some ⟨g, 0, none⟩), .int .i64 (j : Int)] w fun e w' => e = .returned (.bool (X.testBit j)) ∧ Hid (Bag w0 w' l) :=
  bag_quiet b (has_in g h n X j w (b.at_ i g h n X hi).1 hj)
theorem bag_has_out (i : Nat) (b : Bag w0 w l) (hi : l[i]? = some ⟨g, h, n, X⟩) {z : Int} (hz : z < 0 ∨ (n : Int) ≤ z) : Calls Tryd.prog 33 #[.pointer (some ⟨g, 0, none⟩), .int .i64 z] w fun e w' => e = .returned (.bool false) ∧ Hid (Bag w0 w' l) :=
  bag_quiet b (has_no _ z w (within_out g h n X z w (b.at_ i g h n X hi).1 hz))
theorem bag_set (i : Nat) (b : Bag w0 w l) (hi : l[i]? = some ⟨g, h, n, X⟩) (hj : j < n) (on : Bool) : Calls Tryd.prog 26 #[.pointer (some ⟨g, 0, none⟩), .int .i64 (j : Int), .bool on] w fun e w' => e = .returned (.bool true) ∧ Hid (Bag w0 w' (l.set i ⟨g, h, n, put X j on⟩)) :=
  (set_in g h n X j on w (b.at_ i g h n X hi).1 hj).mono fun e w' ⟨he, hv, hg⟩ => ⟨he, b.write hi hg.out hv.out⟩
theorem bag_set_out (i : Nat) (b : Bag w0 w l) (hi : l[i]? = some ⟨g, h, n, X⟩) (z : Int) (on : Bool) (hz : z < 0 ∨ (n : Int) ≤ z) : Calls Tryd.prog 26 #[.pointer (some ⟨g, 0, none⟩), .int .i64 z, .bool on] w fun e w' => e = .returned (.bool false) ∧ Hid (Bag w0 w' l) :=
  bag_quiet b (set_no _ z on w (within_out g h n X z w (b.at_ i g h n X hi).1 hz))
theorem bag_xor (i j : Nat) (b : Bag w0 w l) (hij : i ≠ j) (hi : l[i]? = some ⟨g, h, n, X⟩) (hj : l[j]? = some ⟨g', h', n, Y⟩) : Calls Tryd.prog 55 #[.pointer (some ⟨g, 0, none⟩), .pointer (some ⟨g', 0, none⟩)] w fun e w' => e = .returned (.bool true) ∧ Hid (Bag w0 w' (l.set i ⟨g, h, n, X ^^^ Y⟩)) :=
  (xor_any g h n X g' h' Y w (b.at_ i g h n X hi).1 (b.at_ j g' h' n Y hj).1 (b.apart i j _ _ hij hi hj).2 (fun e => (b.apart j i _ _ (fun e => hij e.symm) hj hi).1 e.symm)).mono fun e w' ⟨he, hv, hg⟩ => ⟨he, b.write hi hg.out hv.out⟩
theorem bag_xor_ne (i j : Nat) (b : Bag w0 w l) (hi : l[i]? = some ⟨g, h, n, X⟩) (hj : l[j]? = some ⟨g', h', n', Y⟩) (hn : n ≠ n') : Calls Tryd.prog 55 #[.pointer (some ⟨g, 0, none⟩), .pointer (some ⟨g', 0, none⟩)] w fun e w' => e = .returned (.bool false) ∧ Hid (Bag w0 w' l) :=
  bag_QB b (xor_ne g h n X g' h' n' Y w (b.at_ i g h n X hi).1 (b.at_ j g' h' n' Y hj).1 hn)
theorem bag_first (i : Nat) (b : Bag w0 w l) (hi : l[i]? = some ⟨g, h, n, X⟩) : Calls Tryd.prog 30 #[.pointer (some ⟨g, 0, none⟩)] w fun e w' => e = .returned (.int .i64 (firstI (Ls X))) ∧ Hid (Bag w0 w' l) :=
  bag_quiet b (first_any g h n X w (b.at_ i g h n X hi).1 b.dtab)
theorem bag_count (i : Nat) (b : Bag w0 w l) (hi : l[i]? = some ⟨g, h, n, X⟩) : Calls Tryd.prog 42 #[.pointer (some ⟨g, 0, none⟩)] w fun e w' => e = .returned (.int .i64 ((Ls X).length : Int)) ∧ Hid (Bag w0 w' l) :=
  bag_quiet b (count_any g h n X w (b.at_ i g h n X hi).1)
def ListBag (w0 : World) (l : List VV) (X : Nat) (e : Ending) (w' : World) : Prop := ∃ A c, e = .returned (.slice A (Ls X).length c) ∧ Hid (Row w' w'.heap.size A (Ls X).length (nv ((Ls X).map fun i : Nat => (i : Int)))) ∧ Hid (Bag w0 w' l)
theorem bag_list (i : Nat) (b : Bag w0 w l) (hi : l[i]? = some ⟨g, h, n, X⟩) : Calls Tryd.prog 40 #[.pointer (some ⟨g, 0, none⟩)] w (ListBag w0 l X) :=
  (list_any g h n X w (b.at_ i g h n X hi).1 b.dtab).mono fun e w' ⟨A, c, he, ho, hb⟩ => ⟨A, c, he, Row.of_own ho.out, b.read hb.out⟩
def BytesBag (w0 : World) (l : List VV) (bs : List UInt8) (e : Ending) (w' : World) : Prop := ∃ A n c, e = .returned (.slice A n c) ∧ Hid (n = bs.length) ∧ Hid (Row w' w'.heap.size A n (bv bs)) ∧ Hid (Bag w0 w' l)
theorem bag_bytes (i : Nat) (b : Bag w0 w l) (hi : l[i]? = some ⟨g, h, n, X⟩) : Calls Tryd.prog 43 #[.pointer (some ⟨g, 0, none⟩)] w (BytesBag w0 l (bl X n)) :=
  (bytes_any g h n X w (b.at_ i g h n X hi).1).mono fun e w' ⟨g, he, ho, hb⟩ => ⟨_, _, _, he, rfl, Row.of_own ho.out, b.read hb.out⟩
def FromBag (w0 : World) (l : List VV) (n X : Nat) (e : Ending) (w' : World) : Prop := ∃ g h, e = .returned (.tuple #[.pointer (some ⟨g, 0, none⟩), .bool true]) ∧ Hid (Bag w0 w' (l ++ [⟨g, h, n, X⟩]))
theorem bag_from {A : Option Addr} {m c : Nat} {bs : List UInt8} (b : Bag w0 w l) (hr : Row w w.heap.size A m (bv bs)) (hm : m ≤ 4611686018427387904) (hn : n ≤ 256) (hf : fits n bs) : Calls Tryd.prog 58 #[.int .i64 (n : Int), .slice A m c] w (FromBag w0 l n (frN bs (bw n))) :=
  (from_ok n A m c w.heap.size bs w hr (Nat.le_refl _) hm hn hf).mono fun e w' ⟨g, h, he, h1, h2, hv, hb⟩ => ⟨g, h, he, b.add hb.out h1 h2 hv.out⟩
theorem bag_from_no {A : Option Addr} {m c : Nat} {bs : List UInt8} (b : Bag w0 w l) (hr : Row w w.heap.size A m (bv bs)) (hm : m ≤ 4611686018427387904) (hn : n ≤ 256) (hf : ¬ fits n bs) : Calls Tryd.prog 58 #[.int .i64 (n : Int), .slice A m c] w fun e w' => e = .returned (.tuple #[.pointer none, .bool false]) ∧ Hid (Bag w0 w' l) :=
  (from_no n A m c w.heap.size bs w hr (Nat.le_refl _) hm hn hf).mono fun e w' ⟨he, hb⟩ => ⟨he, b.read hb⟩
/-- what is written is read as it was -/
theorem fits_bl {X n : Nat} (hX : X < 2 ^ n) : fits n (bl X n) := by
  refine ⟨bl_length X n, fun h => ?_⟩
  have hb : bw n - 1 < bw n := by unfold bw; omega
  have e : (bl X n).getD (bw n - 1) 0 = byteU X (bw n - 1) := by
    rw [List.getD_eq_getElem?_getD]; unfold bl; rw [fill_get _ _ _ _ hb, if_pos hb]; rfl
  rw [e, byteU_toNat]
  apply Nat.lt_pow_two_of_testBit
  intro i hi
  rw [byteN_bit]
  by_cases h8 : i < 8
  · rw [Nat.testBit_lt_two_pow (Nat.lt_of_lt_of_le hX (Nat.pow_le_pow_right (by decide) (by unfold bw; omega)))]; simp
  · simp [h8]
theorem frN_bl {X n : Nat} (hX : X < 2 ^ n) : frN (bl X n) (bw n) = X := by
  apply Nat.eq_of_testBit_eq; intro i
  rw [frN_bit]
  by_cases hi : i / 8 < bw n
  · have e : (bl X n).getD (i / 8) 0 = byteU X (i / 8) := by
      rw [List.getD_eq_getElem?_getD]; unfold bl; rw [fill_get _ _ _ _ hi, if_pos hi]; rfl
    rw [e, byteU_toNat, byteN_bit]
    have h8 : i % 8 < 8 := by omega
    simp [hi, h8, show 8 * (i / 8) + i % 8 = i by omega]
  · rw [Nat.testBit_lt_two_pow (Nat.lt_of_lt_of_le hX (Nat.pow_le_pow_right (by decide) (by unfold bw at hi; omega)))]
    simp [hi]
end
theorem ofL_lt {n : Nat} (l : List Int) : ofL n l < 2 ^ n := by
  have key : ∀ (l : List Int) (X : Nat), X < 2 ^ n → l.foldl (setOne n) X < 2 ^ n := by
    intro l
    induction l with
    | nil => exact fun X h => h
    | cons z t ih =>
      intro X h
      refine ih _ ?_
      unfold setOne; split
      · exact set_lt h (by omega)
      · exact h
  exact key l 0 (Nat.two_pow_pos n)
theorem ls_lt (X : Nat) : (Ls X).length ≤ 256 := L_le X 256
end Go.Proofs.YtgeodhffgbhmaaaDoor.Vc
