/- Rows of bits as numbers: words, bytes, places; plain mathematics. -/
import Derived.Lib.TrailingZeros
import Derived.Laws.NewBlocks
import Derived.Laws.Tables
import Derived.Laws.BitsAllLaws
import Derived.BigQuiet
import Derived.Deep.QuietTactic
import Derived.Deep.RegionWith
import Derived.Deep.DeepCutAuto
import Derived.WalkSpells
import Derived.WalkLawsBesides
import Derived.Lib.SliceRun
import Derived.Deep.RegionHeld3
import Derived.Test.YtoblapnnpjgpnaaGreatDoorZA
import Derived.Test.YtoblapnnpjgpnaaGreatDoorRows
namespace Go.Proofs.YtoblapnnpjgpnaaGreatDoor
namespace VecM
def word (X k : Nat) : Nat := X / 2 ^ (64 * k) % 2 ^ 64
theorem word_lt (X k : Nat) : word X k < 2 ^ 64 := Nat.mod_lt _ (Nat.two_pow_pos 64)
theorem word_bit (X k j : Nat) : (word X k).testBit j = (decide (j < 64) && X.testBit (64 * k + j)) := by
  unfold word; rw [Nat.testBit_mod_two_pow, Nat.testBit_div_two_pow, Nat.add_comm]
theorem word_or (X Y k : Nat) : word (X ||| Y) k = word X k ||| word Y k := by
  apply Nat.eq_of_testBit_eq; intro j
  rw [Nat.testBit_or, word_bit, word_bit, word_bit, Nat.testBit_or]
  cases decide (j < 64) <;> simp
theorem word_xor (X Y k : Nat) : word (X ^^^ Y) k = word X k ^^^ word Y k := by
  apply Nat.eq_of_testBit_eq; intro j
  rw [Nat.testBit_xor, word_bit, word_bit, word_bit, Nat.testBit_xor]
  cases decide (j < 64) <;> simp
theorem word_and (X Y k : Nat) : word (X &&& Y) k = word X k &&& word Y k := by
  apply Nat.eq_of_testBit_eq; intro j
  rw [Nat.testBit_and, word_bit, word_bit, word_bit, Nat.testBit_and]
  cases decide (j < 64) <;> simp
theorem word_one (i k : Nat) : word (2 ^ i) k = if k = i / 64 then 2 ^ (i % 64) else 0 := by
  apply Nat.eq_of_testBit_eq; intro j
  rw [word_bit, Nat.testBit_two_pow]
  by_cases h : k = i / 64
  · rw [if_pos h, Nat.testBit_two_pow]
    by_cases hj : j < 64
    · simp only [hj, decide_true, Bool.true_and]
      congr 1
      simp only [eq_iff_iff]
      omega
    · have : ¬ i % 64 = j := by omega
      simp [hj, this]
  · rw [if_neg h]
    by_cases hj : j < 64
    · have : ¬ i = 64 * k + j := by omega
      simp [this]
    · simp [hj]
/-- bit i let go -/
def clr (X i : Nat) : Nat := X ^^^ (X &&& 2 ^ i)
theorem clr_bit (X i j : Nat) : (clr X i).testBit j = (X.testBit j && decide (j ≠ i)) := by
  unfold clr
  rw [Nat.testBit_xor, Nat.testBit_and, Nat.testBit_two_pow]
  by_cases h : j = i
  · subst h; simp
  · have : ¬ i = j := fun e => h e.symm
    simp [h, this]
theorem clr_lt {X n i : Nat} (h : X < 2 ^ n) : clr X i < 2 ^ n :=
  Nat.xor_lt_two_pow h (Nat.lt_of_le_of_lt Nat.and_le_left h)
theorem word_clr (X i k : Nat) : word (clr X i) k = if k = i / 64 then clr (word X k) (i % 64) else word X k := by
  unfold clr
  rw [word_xor, word_and, word_one]
  by_cases h : k = i / 64
  · rw [if_pos h, if_pos h]
  · rw [if_neg h, if_neg h]; simp
theorem word_set (X i k : Nat) : word (X ||| 2 ^ i) k = if k = i / 64 then word X k ||| 2 ^ (i % 64) else word X k := by
  rw [word_or, word_one]
  by_cases h : k = i / 64
  · rw [if_pos h, if_pos h]
  · rw [if_neg h, if_neg h]; simp
theorem set_lt {X n i : Nat} (h : X < 2 ^ n) (hi : i < n) : X ||| 2 ^ i < 2 ^ n :=
  Nat.or_lt_two_pow h (Nat.pow_lt_pow_right (by decide) hi)
/-- '>> (i % 64) & 1' -/
theorem has_word (X i : Nat) : word X (i / 64) / 2 ^ (i % 64) % 2 = if X.testBit i then 1 else 0 := by
  have h := word_bit X (i / 64) (i % 64)
  rw [show 64 * (i / 64) + i % 64 = i by omega] at h
  have h64 : i % 64 < 64 := by omega
  simp only [h64, decide_true, Bool.true_and] at h
  rw [← h, Nat.testBit_eq_decide_div_mod_eq]
  by_cases e : word X (i / 64) / 2 ^ (i % 64) % 2 = 1
  · simp [e]
  · simp [e]; omega
/-- words beyond the row are nought -/
theorem word_beyond {X n k : Nat} (h : X < 2 ^ n) (hk : n ≤ 64 * k) : word X k = 0 := by
  unfold word
  rw [Nat.div_eq_of_lt (Nat.lt_of_lt_of_le h (Nat.pow_le_pow_right (by decide) hk))]
/-- rows of alike words are alike -/
theorem ext_words {X Y n m : Nat} (hX : X < 2 ^ n) (hY : Y < 2 ^ n) (hm : n ≤ 64 * m) (h : ∀ k, k < m → word X k = word Y k) : X = Y := by
  apply Nat.eq_of_testBit_eq; intro j
  have hw : word X (j / 64) = word Y (j / 64) := by
    by_cases hk : j / 64 < m
    · exact h _ hk
    · rw [word_beyond hX (by omega), word_beyond hY (by omega)]
  have h1 := word_bit X (j / 64) (j % 64)
  have h2 := word_bit Y (j / 64) (j % 64)
  rw [show 64 * (j / 64) + j % 64 = j by omega] at h1 h2
  have h64 : j % 64 < 64 := by omega
  simp only [h64, decide_true, Bool.true_and] at h1 h2
  rw [← h1, ← h2, hw]
/-- all places that are set, rising -/
def L (X n : Nat) : List Nat := (List.range n).filter X.testBit
theorem mem_L (X n j : Nat) : j ∈ L X n ↔ j < n ∧ X.testBit j = true := by simp [L]
theorem L_more {X n m : Nat} (h : X < 2 ^ n) (hm : n ≤ m) : L X m = L X n := by
  obtain ⟨d, rfl⟩ : ∃ d, m = n + d := ⟨m - n, by omega⟩
  unfold L
  rw [List.range_add, List.filter_append, (List.filter_eq_nil_iff (l := (List.range d).map (n + ·))).2 ?_, List.append_nil]
  intro j hj
  simp only [List.mem_map, List.mem_range] at hj
  obtain ⟨i, _, rfl⟩ := hj
  rw [Nat.testBit_lt_two_pow (Nat.lt_of_lt_of_le h (Nat.pow_le_pow_right (by decide) (by omega)))]
  decide
theorem L_step (X k : Nat) : L X (64 * (k + 1)) = L X (64 * k) ++ (L (word X k) 64).map (64 * k + ·) := by
  unfold L
  rw [show 64 * (k + 1) = 64 * k + 64 by omega, List.range_add, List.filter_append, List.filter_map]
  congr 2
  apply List.filter_congr
  intro j hj
  rw [word_bit]
  have : j < 64 := by simpa using hj
  simp [this]
/-- how many of the first k bits -/
def pop : Nat → Nat → Nat
  | 0, _ => 0
  | k + 1, x => x % 2 + pop k (x / 2)
theorem pop_L : ∀ (k x : Nat), (L x k).length = pop k x
  | 0, x => rfl
  | k + 1, x => by
    show _ = x % 2 + pop k (x / 2)
    rw [← pop_L k (x / 2)]
    unfold L
    rw [List.range_succ_eq_map, List.filter_cons, List.filter_map]
    have e : (x.testBit ∘ Nat.succ) = (x / 2).testBit := by funext j; exact Nat.testBit_succ x j
    rw [e, Nat.testBit_zero]
    by_cases h : x % 2 = 1
    · simp [h]; omega
    · have h0 : x % 2 = 0 := by omega
      simp [h0]
theorem pop_add : ∀ (a b x : Nat), pop (a + b) x = pop a x + pop b (x / 2 ^ a)
  | 0, b, x => by simp [pop]
  | a + 1, b, x => by
    rw [show a + 1 + b = (a + b) + 1 by omega]
    show x % 2 + pop (a + b) (x / 2) = x % 2 + pop a (x / 2) + _
    rw [pop_add a b (x / 2), Nat.div_div_eq_div_mul, ← Nat.pow_succ', Nat.add_assoc]
theorem pop_mod : ∀ (a x : Nat), pop a (x % 2 ^ a) = pop a x
  | 0, x => rfl
  | a + 1, x => by
    show x % 2 ^ (a + 1) % 2 + pop a (x % 2 ^ (a + 1) / 2) = x % 2 + pop a (x / 2)
    have e1 : x % 2 ^ (a + 1) % 2 = x % 2 := Nat.mod_mod_of_dvd x (by rw [Nat.pow_succ]; exact Nat.dvd_mul_left _ _)
    have e2 : x % 2 ^ (a + 1) / 2 = x / 2 % 2 ^ a := by
      rw [Nat.pow_succ, Nat.mul_comm, Nat.mod_mul_right_div_self]
    rw [e1, e2, pop_mod a (x / 2)]
/-- the lowest bit let go -/
theorem low_bits (y : Nat) (h0 : y ≠ 0) (h : y < 2 ^ 64) : ∃ c, Lib.ctz 64 y = c ∧ c < 64 ∧ y.testBit c = true ∧ (∀ j, j < c → y.testBit j = false) ∧ y &&& (y - 1) = clr y c := by
  obtain ⟨m, hm, hk⟩ := Lib.ctzFrom_spec 64 y (by omega) h
  have e : Lib.ctz 64 y = Lib.ctzFrom 64 y := by simp [Lib.ctz, h0]
  refine ⟨Lib.ctzFrom 64 y, e, hk, ?_⟩
  generalize Lib.ctzFrom 64 y = c at *
  have hy : ∀ j, y.testBit j = if j < c then false else (2 * m + 1).testBit (j - c) := by
    intro j
    have := Nat.testBit_two_pow_mul_add (2 * m + 1) (b := 0) (i := c) (Nat.two_pow_pos c) j
    rw [Nat.add_zero, ← hm] at this
    rw [this]; simp
  have hy1 : y - 1 = 2 ^ c * (2 * m) + (2 ^ c - 1) := by
    have hp := Nat.two_pow_pos c
    have : 2 ^ c * (2 * m + 1) = 2 ^ c * (2 * m) + 2 ^ c := by rw [Nat.mul_add, Nat.mul_one]
    omega
  have hp : 2 ^ c - 1 < 2 ^ c := by have := Nat.two_pow_pos c; omega
  refine ⟨?_, ?_, ?_⟩
  · rw [hy, if_neg (by omega), Nat.sub_self, Nat.testBit_zero]; simp
  · intro j hj; rw [hy, if_pos hj]
  · apply Nat.eq_of_testBit_eq; intro j
    rw [Nat.testBit_and, clr_bit, hy1, Nat.testBit_two_pow_mul_add _ hp, hy]
    by_cases hj : j < c
    · simp [hj]
    · rw [if_neg hj, if_neg hj]
      by_cases e2 : j = c
      · subst e2; simp
      · obtain ⟨i, rfl⟩ : ∃ i, j = c + (i + 1) := ⟨j - c - 1, by omega⟩
        rw [show c + (i + 1) - c = i + 1 by omega, Nat.testBit_succ, Nat.testBit_succ]
        have d1 : (2 * m + 1) / 2 = m := by omega
        have d2 : 2 * m / 2 = m := by omega
        rw [d1, d2]
        simp
theorem L_low (y c n : Nat) (hc : c < n) (h1 : y.testBit c = true) (h2 : ∀ j, j < c → y.testBit j = false) : L y n = c :: L (clr y c) n := by
  obtain ⟨d, rfl⟩ : ∃ d, n = c + 1 + d := ⟨n - c - 1, by omega⟩
  unfold L
  rw [List.range_add, List.range_succ, List.filter_append, List.filter_append, List.filter_append, List.filter_append]
  have a1 : (List.range c).filter y.testBit = [] := by
    rw [List.filter_eq_nil_iff]; intro j hj; rw [h2 j (by simpa using hj)]; decide
  have a2 : (List.range c).filter (clr y c).testBit = [] := by
    rw [List.filter_eq_nil_iff]; intro j hj; rw [clr_bit, h2 j (by simpa using hj)]; simp
  have a3 : ([c] : List Nat).filter y.testBit = [c] := by simp [h1]
  have a4 : ([c] : List Nat).filter (clr y c).testBit = [] := by simp [clr_bit]
  have a5 : ((List.range d).map (c + 1 + ·)).filter (clr y c).testBit = ((List.range d).map (c + 1 + ·)).filter y.testBit := by
    apply List.filter_congr
    intro j hj
    simp only [List.mem_map, List.mem_range] at hj
    obtain ⟨i, _, rfl⟩ := hj
    rw [clr_bit]
    have : c + 1 + i ≠ c := by omega
    simp [this]
  rw [a1, a2, a3, a4, a5]; rfl
theorem L_zero (n : Nat) : L 0 n = [] := by unfold L; rw [List.filter_eq_nil_iff]; intro j _; simp
theorem L_nil {X n : Nat} (hX : X < 2 ^ n) (h : L X n = []) : X = 0 := by
  apply Nat.eq_of_testBit_eq; intro j
  rw [Nat.zero_testBit]
  by_cases hj : j < n
  · unfold L at h
    rw [List.filter_eq_nil_iff] at h
    have := h j (by simpa using hj)
    simpa using this
  · exact Nat.testBit_lt_two_pow (Nat.lt_of_lt_of_le hX (Nat.pow_le_pow_right (by decide) (by omega)))
/- OnesCount64 -/
def s1 (x : Nat) : Nat := (x / 2 &&& 6148914691236517205) + (x &&& 6148914691236517205)
def s2 (x : Nat) : Nat := (x / 4 &&& 3689348814741910323) + (x &&& 3689348814741910323)
def s3 (x : Nat) : Nat := (x / 16 + x) &&& 1085102592571150095
def m8 (b : Nat) : Nat → Nat
  | 0 => 0
  | k + 1 => b + 256 * m8 b k
def fold8 (f : Nat → Nat) : Nat → Nat → Nat
  | 0, _ => 0
  | k + 1, x => f (x % 256) + 256 * fold8 f k (x / 256)
theorem and_byte (x b M : Nat) (hb : b < 256) : x &&& (b + 256 * M) = (x % 256 &&& b) + 256 * (x / 256 &&& M) := by
  have h1 : (x &&& (b + 256 * M)) % 256 = x % 256 &&& b := by
    have := Nat.and_mod_two_pow (n := 8) (a := x) (b := b + 256 * M)
    rw [show (2 : Nat) ^ 8 = 256 from rfl] at this
    rw [this]
    congr 1; omega
  have h2 : (x &&& (b + 256 * M)) / 256 = x / 256 &&& M := by
    have := Nat.and_div_two_pow (n := 8) (a := x) (b := b + 256 * M)
    rw [show (2 : Nat) ^ 8 = 256 from rfl] at this
    rw [this]
    congr 1; omega
  omega
theorem and_m8 (b : Nat) (hb : b < 256) : ∀ (k x : Nat), x &&& m8 b k = fold8 (· &&& b) k x
  | 0, x => by simp [m8, fold8]
  | k + 1, x => by
    show x &&& (b + 256 * m8 b k) = _
    rw [and_byte _ _ _ hb, and_m8 b hb k]; rfl
theorem fold8_congr (f g : Nat → Nat) (h : ∀ c, c < 256 → f c = g c) : ∀ k x, fold8 f k x = fold8 g k x
  | 0, _ => rfl
  | k + 1, x => by show _ + 256 * _ = _ + 256 * _; rw [h _ (by omega), fold8_congr f g h k]
theorem fold8_add (f g : Nat → Nat) : ∀ k x, fold8 f k x + fold8 g k x = fold8 (fun c => f c + g c) k x
  | 0, _ => rfl
  | k + 1, x => by
    show f _ + 256 * fold8 f k _ + (g _ + 256 * fold8 g k _) = f _ + g _ + 256 * _
    rw [← fold8_add f g k]; omega
/-- a sum of shifted and masked bytes, byte by byte -/
theorem fold8_shift (s b : Nat) (hs : 0 < s) (hd : s ∣ 256) (h : ∀ c, c < 256 → ∀ t, t < s → (c / s + 256 / s * t) &&& b = c / s &&& b) : ∀ k x, fold8 (· &&& b) k (x / s) = fold8 (fun c => c / s &&& b) k x
  | 0, _ => rfl
  | k + 1, x => by
    obtain ⟨r, hr⟩ := hd
    have hr0 : 0 < r := by
      rcases Nat.eq_zero_or_pos r with h0 | h0
      · subst h0; omega
      · exact h0
    have hq : 256 / s = r := by rw [hr]; exact Nat.mul_div_cancel_left _ hs
    have e1 : x / s / 256 = x / 256 / s := by rw [Nat.div_div_eq_div_mul, Nat.div_div_eq_div_mul, Nat.mul_comm]
    have e2 : x / s % 256 = x % 256 / s + r * (x / 256 % s) := by
      have h1 := Nat.div_add_mod x 256
      have h2 := Nat.div_add_mod (x / 256) s
      have h3 : x / s = x % 256 / s + r * (x / 256) := by
        conv => lhs; rw [← h1]
        rw [hr, Nat.mul_assoc, Nat.add_comm, Nat.add_mul_div_left _ _ hs]
      have h4 : x % 256 / s < r := by
        apply Nat.div_lt_of_lt_mul; rw [← hr]; exact Nat.mod_lt _ (by decide)
      have h5 : r * (x / 256) = r * (x / 256 % s) + 256 * (x / 256 / s) := by
        conv => lhs; rw [← h2]
        rw [hr, Nat.mul_add, ← Nat.mul_assoc, Nat.mul_comm r s, Nat.add_comm]
      have h6 : r * (x / 256 % s) + r ≤ 256 := by
        have : x / 256 % s < s := Nat.mod_lt _ hs
        have : r * (x / 256 % s + 1) ≤ r * s := Nat.mul_le_mul_left _ this
        rw [Nat.mul_add, Nat.mul_one, Nat.mul_comm r s, ← hr] at this
        exact this
      omega
    show (x / s % 256 &&& b) + 256 * fold8 (· &&& b) k (x / s / 256) = (x % 256 / s &&& b) + 256 * _
    rw [e1, fold8_shift s b hs ⟨r, hr⟩ h k, e2]
    have := h (x % 256) (Nat.mod_lt _ (by decide)) (x / 256 % s) (Nat.mod_lt _ hs)
    rw [hq] at this
    rw [this]
theorem fold8_comp (f g : Nat → Nat) (hg : ∀ c, c < 256 → g c < 256) : ∀ k x, fold8 f k (fold8 g k x) = fold8 (fun c => f (g c)) k x
  | 0, _ => rfl
  | k + 1, x => by
    have h := hg (x % 256) (Nat.mod_lt _ (by decide))
    show f ((g (x % 256) + 256 * fold8 g k (x / 256)) % 256) + 256 * fold8 f k ((g (x % 256) + 256 * fold8 g k (x / 256)) / 256) = f (g (x % 256)) + 256 * fold8 (fun c => f (g c)) k (x / 256)
    rw [← fold8_comp f g hg k (x / 256)]
    rw [show (g (x % 256) + 256 * fold8 g k (x / 256)) % 256 = g (x % 256) by omega, show (g (x % 256) + 256 * fold8 g k (x / 256)) / 256 = fold8 g k (x / 256) by omega]
theorem fold8_nib (G : Nat → Nat) (hG : ∀ c, c < 256 → G c ≤ 68 ∧ G c % 16 ≤ 4) : ∀ k x, (fold8 G k x / 16 + fold8 G k x) &&& m8 15 k = fold8 (fun c => (G c / 16 + G c) % 16) k x
  | 0, _ => by simp [m8, fold8]
  | k + 1, x => by
    obtain ⟨h1, h2⟩ := hG (x % 256) (Nat.mod_lt _ (by decide))
    have h3 : fold8 G k (x / 256) % 16 ≤ 4 := by
      cases k with
      | zero => simp [fold8]
      | succ k =>
        show (G (x / 256 % 256) + 256 * _) % 16 ≤ 4
        have := (hG (x / 256 % 256) (Nat.mod_lt _ (by decide))).2
        omega
    show ((G (x % 256) + 256 * fold8 G k (x / 256)) / 16 + (G (x % 256) + 256 * fold8 G k (x / 256))) &&& (15 + 256 * m8 15 k) = (G (x % 256) / 16 + G (x % 256)) % 16 + 256 * fold8 (fun c => (G c / 16 + G c) % 16) k (x / 256)
    rw [and_byte _ _ _ (by decide), ← fold8_nib G hG k (x / 256)]
    generalize G (x % 256) = a at *
    generalize fold8 G k (x / 256) = R at *
    rw [show ((a + 256 * R) / 16 + (a + 256 * R)) / 256 = R / 16 + R by omega]
    have e : ∀ y : Nat, y &&& 15 = y % 16 := fun y => Nat.and_two_pow_sub_one_eq_mod y 4
    rw [e]
    congr 1
    omega
def g1 (c : Nat) : Nat := (c / 2 &&& 85) + (c &&& 85)
def g2 (c : Nat) : Nat := (c / 4 &&& 51) + (c &&& 51)
theorem s1_fold (x : Nat) : s1 x = fold8 g1 8 x := by
  unfold s1
  rw [show (6148914691236517205 : Nat) = m8 85 8 from rfl, and_m8 85 (by decide), and_m8 85 (by decide), fold8_shift 2 85 (by decide) (by decide) (by decide +kernel), fold8_add]; rfl
theorem s2_fold (x : Nat) : s2 x = fold8 g2 8 x := by
  unfold s2
  rw [show (3689348814741910323 : Nat) = m8 51 8 from rfl, and_m8 51 (by decide), and_m8 51 (by decide), fold8_shift 4 51 (by decide) (by decide) (by decide +kernel), fold8_add]; rfl
theorem s3_fold (x : Nat) : s3 (s2 (s1 x)) = fold8 (pop 8) 8 x := by
  rw [s1_fold, s2_fold, fold8_comp g2 g1 (by decide +kernel)]
  unfold s3
  rw [show (1085102592571150095 : Nat) = m8 15 8 from rfl, fold8_nib _ (by decide +kernel)]
  exact fold8_congr _ _ (by decide +kernel) 8 x
theorem pop8_le (c : Nat) : pop 8 c ≤ 8 := by
  have : ∀ k c, pop k c ≤ k := by
    intro k
    induction k with
    | zero => intro c; exact Nat.le_refl 0
    | succ k ih => intro c; show c % 2 + pop k (c / 2) ≤ _; have := ih (c / 2); omega
  exact this 8 c
theorem dig (a R : Nat) (h : a < 256) : (a + 256 * R) / 256 = R := by omega
theorem dig2 (a b R : Nat) (h : a < 256) (hb : b < 256) : (a + 256 * (b + 256 * R)) / 65536 = R := by omega
theorem dig4 (a b c d R : Nat) (h : a < 256) (hb : b < 256) (hc : c < 256) (hd : d < 256) : (a + 256 * (b + 256 * (c + 256 * (d + 256 * R)))) / 4294967296 = R := by omega
theorem ones_sum (p0 p1 p2 p3 p4 p5 p6 p7 : Nat) (a0 : p0 ≤ 8) (a1 : p1 ≤ 8) (a2 : p2 ≤ 8) (a3 : p3 ≤ 8) (a4 : p4 ≤ 8) (a5 : p5 ≤ 8) (a6 : p6 ≤ 8) (a7 : p7 ≤ 8) (T : Nat)
    (hT : T = p0 + 256 * (p1 + 256 * (p2 + 256 * (p3 + 256 * (p4 + 256 * (p5 + 256 * (p6 + 256 * p7))))))) :
    T + T / 256 + (T + T / 256) / 65536 + (T + T / 256 + (T + T / 256) / 65536) / 4294967296 < 18446744073709551616 ∧ (T + T / 256 + (T + T / 256) / 65536 + (T + T / 256 + (T + T / 256) / 65536) / 4294967296) % 128 = p0 + (p1 + (p2 + (p3 + (p4 + (p5 + (p6 + p7)))))) := by
  have t1 : T / 256 = p1 + 256 * (p2 + 256 * (p3 + 256 * (p4 + 256 * (p5 + 256 * (p6 + 256 * p7))))) := by rw [hT]; clear hT; exact dig _ _ (by omega)
  obtain ⟨U, hU⟩ : ∃ U, T + T / 256 = U := ⟨_, rfl⟩
  rw [hU]
  have u0 : U = (p0 + p1) + 256 * ((p1 + p2) + 256 * ((p2 + p3) + 256 * ((p3 + p4) + 256 * ((p4 + p5) + 256 * ((p5 + p6) + 256 * ((p6 + p7) + 256 * p7)))))) := by rw [← hU, t1, hT]; clear hU t1 hT; omega
  have u1 : U / 65536 = (p2 + p3) + 256 * ((p3 + p4) + 256 * ((p4 + p5) + 256 * ((p5 + p6) + 256 * ((p6 + p7) + 256 * p7)))) := by rw [u0]; clear u0 hU t1 hT; exact dig2 _ _ _ (by omega) (by omega)
  obtain ⟨V, hV⟩ : ∃ V, U + U / 65536 = V := ⟨_, rfl⟩
  rw [hV]
  have v0 : V = (p0 + p1 + p2 + p3) + 256 * ((p1 + p2 + p3 + p4) + 256 * ((p2 + p3 + p4 + p5) + 256 * ((p3 + p4 + p5 + p6) + 256 * ((p4 + p5 + p6 + p7) + 256 * ((p5 + p6 + p7) + 256 * ((p6 + p7) + 256 * p7)))))) := by rw [← hV, u1, u0]; clear hV u1 u0 hU t1 hT; omega
  have v1 : V / 4294967296 = (p4 + p5 + p6 + p7) + 256 * ((p5 + p6 + p7) + 256 * ((p6 + p7) + 256 * p7)) := by rw [v0]; clear v0 hV u1 u0 hU t1 hT; exact dig4 _ _ _ _ _ (by omega) (by omega) (by omega) (by omega)
  have w0 : V + V / 4294967296 = (p0 + p1 + p2 + p3 + p4 + p5 + p6 + p7) + 256 * ((p1 + p2 + p3 + p4 + p5 + p6 + p7) + 256 * ((p2 + p3 + p4 + p5 + p6 + p7) + 256 * ((p3 + p4 + p5 + p6 + p7) + 256 * ((p4 + p5 + p6 + p7) + 256 * ((p5 + p6 + p7) + 256 * ((p6 + p7) + 256 * p7)))))) := by rw [v1, v0]; clear v1 v0 hV u1 u0 hU t1 hT; omega
  rw [w0]
  clear v0 v1 u0 u1 t1 hT hU hV w0
  constructor
  · omega
  · generalize (p1 + p2 + p3 + p4 + p5 + p6 + p7) + 256 * ((p2 + p3 + p4 + p5 + p6 + p7) + 256 * ((p3 + p4 + p5 + p6 + p7) + 256 * ((p4 + p5 + p6 + p7) + 256 * ((p5 + p6 + p7) + 256 * ((p6 + p7) + 256 * p7))))) = R
    omega
theorem ones_all (x : Nat) : ∃ T, s3 (s2 (s1 x)) = T ∧ T + T / 256 + (T + T / 256) / 65536 + (T + T / 256 + (T + T / 256) / 65536) / 4294967296 < 18446744073709551616 ∧ (T + T / 256 + (T + T / 256) / 65536 + (T + T / 256 + (T + T / 256) / 65536) / 4294967296) % 128 = pop 64 x := by
  refine ⟨_, s3_fold x, ?_⟩
  have h : ∀ b y, pop (8 + b) y = pop 8 (y % 256) + pop b (y / 256) := fun b y => by rw [pop_add 8 b y, ← pop_mod 8 y]
  have f : ∀ k y, fold8 (pop 8) (k + 1) y = pop 8 (y % 256) + 256 * fold8 (pop 8) k (y / 256) := fun _ _ => rfl
  have e : ∀ y, fold8 (pop 8) 0 y = 0 := fun _ => rfl
  have e0 : ∀ y, pop 0 y = 0 := fun _ => rfl
  have e2 := ones_sum _ _ _ _ _ _ _ _ (pop8_le (x % 256)) (pop8_le (x / 256 % 256)) (pop8_le (x / 256 / 256 % 256)) (pop8_le (x / 256 / 256 / 256 % 256)) (pop8_le (x / 256 / 256 / 256 / 256 % 256)) (pop8_le (x / 256 / 256 / 256 / 256 / 256 % 256)) (pop8_le (x / 256 / 256 / 256 / 256 / 256 / 256 % 256)) (pop8_le (x / 256 / 256 / 256 / 256 / 256 / 256 / 256 % 256)) (fold8 (pop 8) 8 x) (by
    rw [f 7, f 6, f 5, f 4, f 3, f 2, f 1, f 0, e, Nat.mul_zero, Nat.add_zero])
  have e3 : pop 64 x = _ := h 56 x
  rw [e3, show (56 : Nat) = 8 + 48 from rfl, h 48, show (48 : Nat) = 8 + 40 from rfl, h 40, show (40 : Nat) = 8 + 32 from rfl, h 32, show (32 : Nat) = 8 + 24 from rfl, h 24, show (24 : Nat) = 8 + 16 from rfl, h 16, show (16 : Nat) = 8 + 8 from rfl, h 8, show pop 8 (x / 256 / 256 / 256 / 256 / 256 / 256 / 256) = pop 8 (x / 256 / 256 / 256 / 256 / 256 / 256 / 256 % 256) from (pop_mod 8 _).symm]
  exact e2
end VecM
end Go.Proofs.YtoblapnnpjgpnaaGreatDoor
namespace Go.Proofs.YtoblapnnpjgpnaaGreatDoor.Vc
open Go.RowKit
open VecM
def mw (n : Nat) : Nat := (n + 63) / 64
/-- block g is a row of n bits, X as a number, its words in block h -/
def VecAt (W : World) (g h n X : Nat) : Prop :=
  n ≤ 256 ∧ X < 2 ^ n ∧ g ≠ h ∧ ∃ cap cs, W.heap[g]? = some (.cells #[.int .i64 (n : Int), .slice (some ⟨h, 0, none⟩) (mw n) cap] 147 (0, 0)) ∧
    W.heap[h]? = some (.cells cs 41 (0, 0)) ∧ mw n ≤ cap ∧ cap ≤ 9223372036854775807 ∧ mw n ≤ cs.size ∧ ∀ k, k < mw n → cs[k]? = some (.int .u64 (word X k : Int))
section
variable {W W' : World} {g h n X : Nat}
theorem VecAt.lt (v : VecAt W g h n X) : g < W.heap.size ∧ h < W.heap.size := by
  obtain ⟨_, _, _, cap, cs, h1, h2, _⟩ := v
  exact ⟨(Array.getElem?_eq_some_iff.1 h1).1, (Array.getElem?_eq_some_iff.1 h2).1⟩
theorem VecAt.keep (v : VecAt W g h n X) (h1 : W'.heap[g]? = W.heap[g]?) (h2 : W'.heap[h]? = W.heap[h]?) : VecAt W' g h n X := by
  obtain ⟨a, b, c, cap, cs, e1, e2, r⟩ := v
  exact ⟨a, b, c, cap, cs, h1.trans e1, h2.trans e2, r⟩
theorem VecAt.below (v : VecAt W g h n X) (hb : Below W.heap.size W W') : VecAt W' g h n X := v.keep (hb.block g v.lt.1) (hb.block h v.lt.2)
theorem VecAt.belowB {B : Nat} (v : VecAt W g h n X) (hb : Below B W W') (h1 : g < B) (h2 : h < B) : VecAt W' g h n X := v.keep (hb.block g h1) (hb.block h h2)
theorem VecAt.grown (v : VecAt W g h n X) {r : Nat} (hg : W.grownBy W' (some r)) (h1 : r ≠ g) (h2 : r ≠ h) : VecAt W' g h n X :=
  v.keep (hg.block g v.lt.1 (fun e => h1 (Option.some.inj e.symm ▸ rfl))) (hg.block h v.lt.2 (fun e => h2 (Option.some.inj e.symm ▸ rfl)))
theorem VecAt.drewN (v : VecAt W g h n X) (k : Nat) : VecAt (W.drewN k) g h n X := v
theorem VecAt.drew (v : VecAt W g h n X) : VecAt W.drew g h n X := v
/-- what the walk reads of it -/
theorem VecAt.cells (v : VecAt W g h n X) : ∃ cap, mw n ≤ cap ∧ cap ≤ 9223372036854775807 ∧ W.cell? ⟨g, 0, none⟩ = some (.int .i64 (n : Int)) ∧ W.cell? ⟨g, 1, none⟩ = some (.slice (some ⟨h, 0, none⟩) (mw n) cap) := by
  obtain ⟨_, _, _, cap, cs, h1, h2, h3, h4, _⟩ := v
  exact ⟨cap, h3, h4, by rw [cell_of_row W g 0 _ _ _ h1]; rfl, by rw [cell_of_row W g 1 _ _ _ h1]; rfl⟩
theorem VecAt.at_ (v : VecAt W g h n X) {k : Nat} (hk : k < mw n) : W.cell? ⟨h, k, none⟩ = some (.int .u64 (word X k : Int)) := by
  obtain ⟨_, _, _, cap, cs, _, h2, _, _, _, hc⟩ := v
  rw [cell_of_row W h k cs _ (0, 0) h2]; exact hc k hk
theorem VecAt.frozen (v : VecAt W g h n X) (k : Nat) : W.frozen? ⟨h, k, none⟩ = false := by
  obtain ⟨_, _, _, cap, cs, _, h2, _⟩ := v
  exact frozen_of_row W h k cs _ h2
theorem grown_set1 (W : World) (g k : Nat) (v : Value) : W.grownBy (W.setCell ⟨g, k, none⟩ v) (some g) :=
  ⟨rfl, rfl, rfl, by simp, fun j _ hj => heap_setCell_other W ⟨g, k, none⟩ j v (fun e => hj (by simp [e]))⟩
/-- a word stored -/
theorem VecAt.store (v : VecAt W g h n X) {k Y : Nat} {u : Int} (hk : k < mw n) (hY : Y < 2 ^ n) (hu : u = (word Y k : Int)) (ho : ∀ j, j < mw n → j ≠ k → word Y j = word X j) : VecAt (W.setCell ⟨h, k, none⟩ (.int .u64 u)) g h n Y := by
  obtain ⟨a, b, c, cap, cs, e1, e2, e3, e4, e5, e6⟩ := v
  refine ⟨a, hY, c, cap, cs.setIfInBounds k (.int .u64 u), ?_, heap_setCell_same W h k cs _ _ e2, e3, e4, by simpa using e5, fun j hj => ?_⟩
  · rw [heap_setCell_other W ⟨h, k, none⟩ g _ c]; exact e1
  · rw [Array.getElem?_setIfInBounds]
    by_cases e : k = j
    · subst e; rw [if_pos rfl, if_pos (by omega), hu]
    · rw [if_neg e, ho j hj (fun e' => e e'.symm)]; exact e6 j hj
end
theorem mw_le {n : Nat} (h : n ≤ 256) : mw n ≤ 4 := by unfold mw; omega
theorem mw_div {n i : Nat} (h : i < n) : i / 64 < mw n := by unfold mw; omega
theorem word_zero (k : Nat) : word 0 k = 0 := by unfold word; rw [Nat.zero_div, Nat.zero_mod]
theorem mk_u64 (w : World) : (zeroValue 41).run Tryz.prog w = .ok (.int .u64 0) w := by kernel_rfl
def NewOk (n : Nat) (w : World) (e : Ending) (w' : World) : Prop :=
  ∃ g h, e = .returned (.pointer (some ⟨g, 0, none⟩)) ∧ w.heap.size ≤ g ∧ w.heap.size ≤ h ∧ Hid (VecAt w' g h n 0) ∧ Hid (Below w.heap.size w w')
set_option maxRecDepth 100000 in
theorem new_bad (x : Int) (w : World) (h : x < 0 ∨ 256 < x) : Calls Tryz.prog 109 #[.int .i64 x] w fun e w' => e = .returned (.pointer none) ∧ w = w' := by
  rcases h with h | h
  · go_enter Tryz.func109, Tryz.ntmps109
    go_wp2_with fail
    go_ret
    exact ⟨rfl, rfl⟩
  · have h0 : ¬ x < 0 := by omega
    go_enter Tryz.func109, Tryz.ntmps109
    go_wp2_with fail
    go_ret
    exact ⟨rfl, rfl⟩
theorem infoU64 : (Tryz.prog.info? 41).map (fun i => (i.zero, i.size, i.bytes)) = some (some (.int .u64 0), 1, 8) := by kernel_rfl
/-- 'make([]uint64, n)' -/
theorem made_u64 (m : Nat) (hm : m ≤ 4) : ∃ C : Array Value, C.size = m ∧ (∀ k, k < m → C[k]? = some (.int .u64 0)) ∧ ∀ w : World, (Instr.makeSlice 145 (.int .i64 (m : Int)) (.int .i64 (m : Int))).run Tryz.prog w = .ok (.slice (some ⟨w.heap.size, 0, none⟩) m m) (w.alloc (.cells C 41)) := by
  obtain ⟨i0, hi, hz0, hz1, hz2⟩ := info_parts infoU64
  have h := fun w => run_make (P := Tryz.prog) w 145 41 i0 (.int .u64 0) Tryz.underlying145 hi hz0 .i64 .i64 (m : Int) (m : Int) (by omega) (by omega) (by rw [hz2]; omega) (by omega)
  rw [hz1] at h
  refine ⟨madeCells (Value.int .u64 0).cells m, ?_, ?_, fun w => by simpa using h w⟩
  · exact size_madeCells _ _
  · intro k hk
    have e : (madeCells (Value.int .u64 0).cells m).toList = List.replicate m (.int .u64 0) := toList_madeCells_one (.int .u64 0) m
    rw [← Array.getElem?_toList, e, List.getElem?_replicate, if_pos hk]
set_option maxRecDepth 100000 in
set_option maxHeartbeats 800000 in
theorem new_ok (n : Nat) (w : World) (h : n ≤ 256) : Calls Tryz.prog 109 #[.int .i64 (n : Int)] w (NewOk n w) := by
  have h1 : ¬ 256 < (n : Int) := by omega
  have e : ((n : Int) + 63) / 64 = (mw n : Int) := by unfold mw; omega
  have HE := Lib.hid e
  obtain ⟨C, hC1, hC2, hmk⟩ := made_u64 (mw n) (mw_le h)
  have HV : Hid (VecAt ((w.alloc (.cells C 41)).alloc (.cells #[.int .i64 (n : Int), .slice (some ⟨w.heap.size, 0, none⟩) (mw n) (mw n)] 147)) (w.heap.size + 1) w.heap.size n 0) := by
    have hm := mw_le h
    refine ⟨h, Nat.two_pow_pos n, by omega, mw n, C, ?_, ?_, Nat.le_refl _, by omega, by omega, fun k hk => ?_⟩
    · have := heap_alloc_new (w.alloc (.cells C 41)) (.cells #[.int .i64 (n : Int), .slice (some ⟨w.heap.size, 0, none⟩) (mw n) (mw n)] 147)
      simpa using this
    · have hb : Below (w.alloc (.cells C 41)).heap.size (w.alloc (.cells C 41)) ((w.alloc (.cells C 41)).alloc (.cells #[.int .i64 (n : Int), .slice (some ⟨w.heap.size, 0, none⟩) (mw n) (mw n)] 147)) := (Below.refl _ _).alloc (Nat.le_refl _) _
      rw [hb.block w.heap.size (by simp)]
      exact heap_alloc_new w _
    · rw [hC2 k hk, word_zero]; rfl
  clear e h hC1 hC2
  go_enter Tryz.func109, Tryz.ntmps109
  go_wp2_with (rw [HE.out])
  go_ret
  exact ⟨_, _, rfl, by omega, Nat.le_refl _, HV, ((Below.refl _ _).alloc (Nat.le_refl _) _).alloc (by simp) _⟩
set_option maxRecDepth 100000 in
theorem within_nil (i : Int) (w : World) : Calls Tryz.prog 128 #[.pointer none, .int .i64 i] w fun e w' => e = .returned (.bool false) ∧ w = w' := by
  go_enter Tryz.func128, Tryz.ntmps128
  go_wp2_with fail
  go_ret
  exact ⟨rfl, rfl⟩
set_option maxRecDepth 100000 in
theorem within_out (g h n X : Nat) (i : Int) (w : World) (v : VecAt w g h n X) (hi : i < 0 ∨ (n : Int) ≤ i) : Calls Tryz.prog 128 #[.pointer (some ⟨g, 0, none⟩), .int .i64 i] w fun e w' => e = .returned (.bool false) ∧ w = w' := by
  obtain ⟨cap, _, _, c0, _⟩ := v.cells
  clear v
  rcases hi with hi | hi
  · go_enter Tryz.func128, Tryz.ntmps128
    go_wp2_with fail
    go_ret
    exact ⟨rfl, rfl⟩
  · have h0 : 0 ≤ i := by omega
    have hd : decide (i < (n : Int)) = false := by simpa using hi
    go_enter Tryz.func128, Tryz.ntmps128
    go_wp2_with fail
    go_ret
    exact ⟨rfl, rfl⟩
set_option maxRecDepth 100000 in
theorem within_in (g h n X i : Nat) (w : World) (v : VecAt w g h n X) (hi : i < n) : Calls Tryz.prog 128 #[.pointer (some ⟨g, 0, none⟩), .int .i64 (i : Int)] w fun e w' => e = .returned (.bool true) ∧ w = w' := by
  obtain ⟨cap, _, _, c0, _⟩ := v.cells
  clear v
  have h0 : (i : Int) < (n : Int) := by omega
  go_enter Tryz.func128, Tryz.ntmps128
  go_wp2_with fail
  go_ret
  exact ⟨rfl, rfl⟩
end Go.Proofs.YtoblapnnpjgpnaaGreatDoor.Vc
namespace Go.Proofs.YtoblapnnpjgpnaaGreatDoor.Vc
open Go.RowKit
open VecM
theorem cast_shr (x k : Nat) : (x : Int) / 2 ^ k = ((x / 2 ^ k : Nat) : Int) := by
  rw [Int.natCast_ediv, Int.natCast_pow]; rfl
theorem and_one_u64 (x k : Nat) (h : x < 2 ^ 64) : bits .and .u64 ((x : Int) / 2 ^ k) 1 = ((x / 2 ^ k % 2 : Nat) : Int) := by
  have h2 : x / 2 ^ k < 18446744073709551616 := Nat.lt_of_le_of_lt (Nat.div_le_self _ _) h
  rw [cast_shr]
  have := u64_and_nat (x / 2 ^ k) 1 h2 (by decide)
  rw [Nat.and_one_is_mod] at this
  exact this
set_option maxRecDepth 100000 in
theorem len_nil (w : World) : Calls Tryz.prog 95 #[.pointer none] w fun e w' => e = .returned (.int .i64 0) ∧ w = w' := by
  go_enter Tryz.func95, Tryz.ntmps95
  go_wp2_with fail
  go_ret
  exact ⟨rfl, rfl⟩
set_option maxRecDepth 100000 in
theorem len_any (g h n X : Nat) (w : World) (v : VecAt w g h n X) : Calls Tryz.prog 95 #[.pointer (some ⟨g, 0, none⟩)] w fun e w' => e = .returned (.int .i64 (n : Int)) ∧ w = w' := by
  obtain ⟨cap, _, _, c0, _⟩ := v.cells
  clear v
  go_enter Tryz.func95, Tryz.ntmps95
  go_wp2_with fail
  go_ret
  exact ⟨rfl, rfl⟩
set_option maxRecDepth 100000 in
theorem has_no (p : Option Addr) (i : Int) (w : World) (hw : Calls Tryz.prog 128 #[.pointer p, .int .i64 i] w fun e w' => e = .returned (.bool false) ∧ w = w') : Calls Tryz.prog 98 #[.pointer p, .int .i64 i] w fun e w' => e = .returned (.bool false) ∧ w = w' := by
  have HW := Lib.hid hw
  clear hw
  go_enter Tryz.func98, Tryz.ntmps98
  go_wp2_with fail
  refine HW.out.mono ?_
  rintro e w' ⟨rfl, rfl⟩
  go_wp2_with fail
  go_ret
  exact ⟨rfl, rfl⟩
set_option maxRecDepth 100000 in
set_option maxHeartbeats 800000 in
theorem has_in (g h n X i : Nat) (w : World) (v : VecAt w g h n X) (hi : i < n) : Calls Tryz.prog 98 #[.pointer (some ⟨g, 0, none⟩), .int .i64 (i : Int)] w fun e w' => e = .returned (.bool (X.testBit i)) ∧ w = w' := by
  have HW := Lib.hid (within_in g h n X i w v hi)
  obtain ⟨cap, _, _, c0, c1⟩ := v.cells
  have hw := v.at_ (mw_div hi)
  have hlt := word_lt X (i / 64)
  have hb := has_word X i
  have hm : i / 64 < mw n := mw_div hi
  have hi2 : i < 256 := by have := v.1; omega
  generalize word X (i / 64) = x at *
  have HB := Lib.hid hb
  clear v hb
  go_enter Tryz.func98, Tryz.ntmps98
  go_wp2_with fail
  refine HW.out.mono ?_
  rintro e w' ⟨rfl, rfl⟩
  go_wp2_with fail
  go_ret
  refine ⟨?_, rfl⟩
  show Ending.returned (.bool (bits BinOp.and IntKind.u64 ((x : Int) / 2 ^ (i % 64)) 1 == 1)) = _
  rw [and_one_u64 _ _ hlt, HB.out]
  cases X.testBit i <;> rfl
def SetOk (g h n Y : Nat) (b : Bool) (w : World) (e : Ending) (w' : World) : Prop := e = .returned (.bool b) ∧ Hid (VecAt w' g h n Y) ∧ Hid (w.grownBy w' (some h))
set_option maxRecDepth 100000 in
theorem set_no (p : Option Addr) (i : Int) (on : Bool) (w : World) (hw : Calls Tryz.prog 128 #[.pointer p, .int .i64 i] w fun e w' => e = .returned (.bool false) ∧ w = w') : Calls Tryz.prog 110 #[.pointer p, .int .i64 i, .bool on] w fun e w' => e = .returned (.bool false) ∧ w = w' := by
  have HW := Lib.hid hw
  clear hw
  go_enter Tryz.func110, Tryz.ntmps110
  go_wp2_with fail
  refine HW.out.mono ?_
  rintro e w' ⟨rfl, rfl⟩
  go_wp2_with fail
  go_ret
  exact ⟨rfl, rfl⟩
theorem wrap_pow (k : Nat) (h : k < 64) : IntKind.u64.wrap ((2 : Int) ^ k) = ((2 ^ k : Nat) : Int) := by
  have h2 : 2 ^ k < 2 ^ 64 := Nat.pow_lt_pow_right (by decide) h
  rw [IntKind.wrap_u64, show (2 : Int) ^ k = ((2 ^ k : Nat) : Int) by rw [Int.natCast_pow]; rfl]
  generalize 2 ^ k = p at *
  omega
theorem or_pow (x k : Nat) (hx : x < 2 ^ 64) (h : k < 64) : bits .or .u64 (x : Int) (IntKind.u64.wrap (2 ^ k)) = ((x ||| 2 ^ k : Nat) : Int) := by
  rw [wrap_pow k h, u64_or_nat _ _ hx (Nat.pow_lt_pow_right (by decide) h)]
theorem andNot_pow (x k : Nat) (hx : x < 2 ^ 64) (h : k < 64) : bits .andNot .u64 (x : Int) (IntKind.u64.wrap (2 ^ k)) = ((clr x k : Nat) : Int) := by
  have hp : 2 ^ k < 2 ^ 64 := Nat.pow_lt_pow_right (by decide) h
  rw [wrap_pow k h, u64_andNot_nat _ _ hx hp]
  congr 1
  apply Nat.eq_of_testBit_eq; intro j
  rw [Nat.testBit_and, clr_bit, show 18446744073709551615 - 2 ^ k = 2 ^ 64 - (2 ^ k + 1) by omega, Nat.testBit_two_pow_sub_succ hp, Nat.testBit_two_pow]
  by_cases hj : j < 64
  · by_cases e : j = k
    · subst e; simp
    · have e2 : ¬ k = j := fun h => e h.symm
      simp [hj, e, e2]
  · rw [Nat.testBit_lt_two_pow (Nat.lt_of_lt_of_le hx (Nat.pow_le_pow_right (by decide) (by omega)))]; simp
/-- bit i as it shall be -/
def put (X i : Nat) (on : Bool) : Nat := if on then X ||| 2 ^ i else clr X i
theorem put_lt {X n i : Nat} (on : Bool) (h : X < 2 ^ n) (hi : i < n) : put X i on < 2 ^ n := by
  unfold put; split
  · exact set_lt h hi
  · exact clr_lt h
set_option maxRecDepth 100000 in
set_option maxHeartbeats 800000 in
theorem set_in (g h n X i : Nat) (on : Bool) (w : World) (v : VecAt w g h n X) (hi : i < n) : Calls Tryz.prog 110 #[.pointer (some ⟨g, 0, none⟩), .int .i64 (i : Int), .bool on] w (SetOk g h n (put X i on) true w) := by
  have HW := Lib.hid (within_in g h n X i w v hi)
  obtain ⟨cap, _, _, c0, c1⟩ := v.cells
  have hw := v.at_ (mw_div hi)
  have hf := v.frozen (i / 64)
  have hlt := word_lt X (i / 64)
  have hm : i / 64 < mw n := mw_div hi
  have hi2 : i < 256 := by have := v.1; omega
  have HV : Hid (∀ u, u = (word (put X i on) (i / 64) : Int) → VecAt (w.setCell ⟨h, i / 64, none⟩ (.int .u64 u)) g h n (put X i on)) := fun u hu => v.store hm (put_lt on v.2.1 hi) hu fun j _ hj => by
    unfold put; split
    · rw [word_set, if_neg hj]
    · rw [word_clr, if_neg hj]
  have HP : Hid (word (put X i on) (i / 64) = if on then word X (i / 64) ||| 2 ^ (i % 64) else clr (word X (i / 64)) (i % 64)) := by
    show _ = _
    unfold put; split
    · rw [word_set, if_pos rfl]
    · rw [word_clr, if_pos rfl]
  generalize word X (i / 64) = x at *
  clear v
  cases on with
  | true =>
    go_enter Tryz.func110, Tryz.ntmps110
    go_wp2_with fail
    refine HW.out.mono ?_
    rintro e w' ⟨rfl, rfl⟩
    go_wp2_with fail
    go_ret
    refine ⟨rfl, HV.out _ ?_, grown_set1 _ _ _ _⟩
    rw [HP.out, or_pow _ _ hlt (by omega)]; simp
  | false =>
    go_enter Tryz.func110, Tryz.ntmps110
    go_wp2_with fail
    refine HW.out.mono ?_
    rintro e w' ⟨rfl, rfl⟩
    go_wp2_with fail
    go_ret
    refine ⟨rfl, HV.out _ ?_, grown_set1 _ _ _ _⟩
    rw [HP.out, andNot_pow _ _ hlt (by omega)]; simp
/-- numbers as cells -/
def nv (l : List Int) : List Value := l.map fun x => .int .i64 x
theorem nv_length (l : List Int) : (nv l).length = l.length := by simp [nv]
theorem nv_get (l : List Int) (k : Nat) (h : k < l.length) : (nv l)[k]? = some (.int .i64 l[k]) := by simp [nv, h]
theorem nv_append (l m : List Int) : nv (l ++ m) = nv l ++ nv m := by simp [nv]
def setOne (n X : Nat) (z : Int) : Nat := if 0 ≤ z ∧ z < (n : Int) then X ||| 2 ^ z.toNat else X
def ofL (n : Nat) (l : List Int) : Nat := l.foldl (setOne n) 0
theorem ofL_snoc (n : Nat) (l : List Int) (z : Int) : ofL n (l ++ [z]) = setOne n (ofL n l) z := by simp [ofL]
theorem ofL_take (n : Nat) (l : List Int) (k : Nat) (h : k < l.length) : ofL n (l.take (k + 1)) = setOne n (ofL n (l.take k)) l[k] := by
  rw [List.take_succ_eq_append_getElem h, ofL_snoc]
def OfOk (n X : Nat) (w : World) (e : Ending) (w' : World) : Prop :=
  ∃ g h, e = .returned (.pointer (some ⟨g, 0, none⟩)) ∧ w.heap.size ≤ g ∧ w.heap.size ≤ h ∧ Hid (VecAt w' g h n X) ∧ Hid (Below w.heap.size w w')
/-- Set, whatever the place -/
theorem set_one (g h n X : Nat) (z : Int) (w : World) (v : VecAt w g h n X) : Calls Tryz.prog 110 #[.pointer (some ⟨g, 0, none⟩), .int .i64 z, .bool true] w fun e w' => ∃ b, e = .returned (.bool b) ∧ Hid (VecAt w' g h n (setOne n X z)) ∧ Hid (w.grownBy w' (some h)) := by
  by_cases hz : 0 ≤ z ∧ z < (n : Int)
  · obtain ⟨i, rfl⟩ : ∃ i : Nat, z = (i : Int) := ⟨z.toNat, by omega⟩
    refine (set_in g h n X i true w v (by omega)).mono ?_
    rintro e w' ⟨rfl, h1, h2⟩
    refine ⟨true, rfl, ?_, h2⟩
    rw [show setOne n X (i : Int) = put X i true by unfold setOne put; rw [if_pos hz, if_pos rfl, Int.toNat_natCast]]
    exact h1
  · refine (set_no _ z true w (within_out g h n X z w v (by omega))).mono ?_
    rintro e w' ⟨rfl, rfl⟩
    refine ⟨false, rfl, ?_, ⟨rfl, rfl, rfl, Nat.le_refl _, fun _ _ _ => rfl⟩⟩
    rw [show setOne n X z = X by unfold setOne; rw [if_neg hz]]
    exact v
set_option maxRecDepth 100000 in
set_option maxHeartbeats 1600000 in
theorem of_bad (x : Int) (A : Option Addr) (m c B : Nat) (zs : List Int) (w : World) (hr : Row w B A m (nv zs)) (hm : m ≤ 4611686018427387904) (h : x < 0 ∨ 256 < x) : Calls Tryz.prog 76 #[.int .i64 x, .slice A m c] w fun e w' => e = .returned (.pointer none) ∧ w = w' := by
  have HX := Lib.hid h
  have HR := Lib.hid hr
  have HL := Lib.hid (nv_length zs ▸ hr.1)
  clear h hr
  go_enter Tryz.func76, Tryz.ntmps76
  go_wp2_with fail
  refine (new_bad x w HX.out).mono ?_
  rintro e w' ⟨rfl, rfl⟩
  go_wp2_with fail
  go_loopw [12] (fun i wr => ∃ k : Nat, k ≤ m ∧ i = .int .i64 k ∧ w = wr) (fun i _ => m - (intOf i).toNat)
  case atStart => exact ⟨0, by omega, rfl, rfl⟩
  case round =>
    obtain ⟨k, hk, rfl, rfl⟩ := hrel
    by_cases hlt : k < m
    · obtain ⟨b, o, rfl, _, hc⟩ := HR.out.cellAt hlt (nv_get zs k (by rw [HL.out]; exact hlt))
      generalize zs[k]'(by rw [HL.out]; exact hlt) = z at *
      go_wp2_with fail
      refine (set_no none z true w (within_nil z w)).mono ?_
      rintro e w' ⟨rfl, rfl⟩
      go_wp2_with fail
      go_roundw
      case rel => exact ⟨k + 1, by omega, by go_num, trivial⟩
      case measure => simp [intOf]; omega
    · obtain rfl : m = k := by omega
      go_wp2_with fail
      go_ret
      exact ⟨rfl, rfl⟩
set_option maxRecDepth 100000 in
set_option maxHeartbeats 1600000 in
theorem of_any (n : Nat) (A : Option Addr) (m c B : Nat) (zs : List Int) (w : World) (hr : Row w B A m (nv zs)) (hB : B ≤ w.heap.size) (hm : m ≤ 4611686018427387904) (h : n ≤ 256) : Calls Tryz.prog 76 #[.int .i64 (n : Int), .slice A m c] w (OfOk n (ofL n zs) w) := by
  have HR := Lib.hid hr
  have HL := Lib.hid (nv_length zs ▸ hr.1)
  clear hr
  go_enter Tryz.func76, Tryz.ntmps76
  go_wp2_with fail
  refine (new_ok n w h).mono ?_
  rintro e w1 ⟨g, h1, rfl, hg, hh, hv, hb⟩
  go_wp2_with fail
  go_loopw [12] (fun i wr => ∃ k : Nat, k ≤ m ∧ i = .int .i64 k ∧ Hid (VecAt wr g h1 n (ofL n (zs.take k))) ∧ Hid (Below w.heap.size w wr)) (fun i _ => m - (intOf i).toNat)
  case atStart => exact ⟨0, by omega, rfl, hv, hb⟩
  case round =>
    obtain ⟨k, hk, rfl, hvk, hbk⟩ := hrel
    by_cases hlt : k < m
    · have hkl : k < zs.length := by rw [HL.out]; exact hlt
      obtain ⟨b, o, rfl, hbB, hc⟩ := (HR.out.below (hbk.out.mono hB)).cellAt hlt (nv_get zs k hkl)
      have HT := Lib.hid (ofL_take n zs k hkl)
      generalize zs[k]'hkl = z at *
      go_wp2_with fail
      refine (set_one g h1 n _ z wr hvk.out).mono ?_
      rintro e w2 ⟨b2, rfl, hv2, hg2⟩
      have hb2 : Hid (Below w.heap.size w w2) := hbk.out.grown hg2.out hbk.out.size (by intro r hr; injection hr with hr; omega)
      rw [← HT.out] at hv2
      clear hg2
      go_wp2_with fail
      go_roundw
      case rel => exact ⟨k + 1, by omega, by go_num, hv2, hb2⟩
      case measure => simp [intOf]; omega
    · obtain rfl : m = k := by omega
      rw [List.take_of_length_le (by rw [HL.out]; omega)] at hvk
      go_wp2_with fail
      go_ret
      exact ⟨g, h1, rfl, hg, hh, hvk, hbk⟩
end Go.Proofs.YtoblapnnpjgpnaaGreatDoor.Vc
namespace Go.Proofs.YtoblapnnpjgpnaaGreatDoor.Vc
open Go.RowKit
open VecM
/-- the library's table, as its initialiser lays it -/
def DTab (W : World) : Prop := 0 < W.heap.size ∧ ∀ j, j < 64 → W.cell? ⟨0, j, none⟩ = some (.int .u8 (Lib.deBruijn64tab.getD j 0 : Nat))
theorem DTab.below {W W' : World} {B : Nat} (h : DTab W) (hb : Below B W W') (hB : 0 < B) : DTab W' :=
  ⟨by have := h.1; have := hb.size; omega, fun j hj => by rw [hb.cell (p := ⟨0, j, none⟩) hB]; exact h.2 j hj⟩
theorem DTab.grow {W W' : World} (h : DTab W) (hb : Below W.heap.size W W') : DTab W' := h.below hb h.1
theorem DTab.grown {W W' : World} {r : Nat} (h : DTab W) (hg : W.grownBy W' (some r)) (hr : r ≠ 0) : DTab W' :=
  ⟨by have := h.1; have := hg.size; omega, fun j hj => by
    rw [World.cell?_of_block (w := W) (a := ⟨0, j, none⟩) (hg.block _ h.1 (fun e => hr (Option.some.inj e.symm ▸ rfl)))]; exact h.2 j hj⟩
theorem wrap_u32'' (n : Int) : IntKind.u64.wrap n = n % 18446744073709551616 := IntKind.wrap_u64 n
theorem tz_key (x a : Nat) (hx : x < 18446744073709551616) (hx0 : x ≠ 0) (hlow : x &&& (18446744073709551616 - x) = a) :
    IntKind.u64.wrap (bits BinOp.and IntKind.u64 (x : Int) (IntKind.u64.wrap (-(x : Int))) * 285870213051353865) / 288230376151711744 = ((a * 285870213051353865 % 18446744073709551616 / 288230376151711744 : Nat) : Int) := by
  have e1 : IntKind.u64.wrap (-(x : Int)) = ((18446744073709551616 - x : Nat) : Int) := by rw [IntKind.wrap_u64]; omega
  rw [e1, u64_and_nat x _ hx (by omega), hlow, IntKind.wrap_u64]
  omega
set_option maxHeartbeats 1000000 in
theorem tz_core (x k idx : Nat) (w : World) (hx0 : ((x : Int) == 0) = false)
    (key : IntKind.u64.wrap (bits BinOp.and IntKind.u64 (x : Int) (IntKind.u64.wrap (-(x : Int))) * 285870213051353865) / 288230376151711744 = (idx : Int))
    (hi : idx < 64) (hk : k < 64) (hcell : w.cell? ⟨0, idx, none⟩ = some (.int .u8 k)) :
    Calls Tryz.prog 82 #[.int .u64 x] w fun e w' => e = .returned (.int .i64 k) ∧ w = w' := by
  go_enter Tryz.func82, Tryz.ntmps82
  go_wp2_with (simp only [key])
  go_ret
  exact ⟨rfl, rfl⟩
theorem tz_any (x : Nat) (w : World) (ht : DTab w) (hx : x < 2 ^ 64) (h0 : x ≠ 0) : Calls Tryz.prog 82 #[.int .u64 (x : Int)] w fun e w' => e = .returned (.int .i64 (Lib.ctz 64 x : Int)) ∧ w = w' := by
  obtain ⟨hlow, hk⟩ := Lib.lowest_bit 64 x h0 hx
  obtain ⟨hi, htab⟩ := Lib.deBruijn64_at _ hk
  have hcell := ht.2 _ hi
  rw [htab] at hcell
  exact tz_core x _ _ w (by simp; omega) (tz_key x _ hx h0 hlow) hi hk hcell
theorem e_s1 (x : Nat) (hx : x < 2 ^ 64) : IntKind.u64.wrap (bits BinOp.and IntKind.u64 ((x : Int) / 2) 6148914691236517205 + bits BinOp.and IntKind.u64 (x : Int) 6148914691236517205) = (s1 x : Int) ∧ s1 x < 2 ^ 64 := by
  have h1 : x / 2 &&& 6148914691236517205 ≤ 6148914691236517205 := Nat.and_le_right
  have h2 : x &&& 6148914691236517205 ≤ 6148914691236517205 := Nat.and_le_right
  have a1 := u64_and_nat (x / 2) 6148914691236517205 (by omega) (by decide)
  have a2 := u64_and_nat x 6148914691236517205 (by omega) (by decide)
  have e : ((x / 2 : Nat) : Int) = (x : Int) / 2 := by omega
  rw [e] at a1
  have a1' : bits BinOp.and IntKind.u64 ((x : Int) / 2) 6148914691236517205 = ((x / 2 &&& 6148914691236517205 : Nat) : Int) := a1
  have a2' : bits BinOp.and IntKind.u64 (x : Int) 6148914691236517205 = ((x &&& 6148914691236517205 : Nat) : Int) := a2
  rw [a1', a2', IntKind.wrap_u64]
  unfold s1
  omega
theorem e_s2 (x : Nat) (hx : x < 2 ^ 64) : IntKind.u64.wrap (bits BinOp.and IntKind.u64 ((x : Int) / 4) 3689348814741910323 + bits BinOp.and IntKind.u64 (x : Int) 3689348814741910323) = (s2 x : Int) ∧ s2 x ≤ 7378697629483820646 := by
  have h1 : x / 4 &&& 3689348814741910323 ≤ 3689348814741910323 := Nat.and_le_right
  have h2 : x &&& 3689348814741910323 ≤ 3689348814741910323 := Nat.and_le_right
  have a1 := u64_and_nat (x / 4) 3689348814741910323 (by omega) (by decide)
  have a2 := u64_and_nat x 3689348814741910323 (by omega) (by decide)
  have e : ((x / 4 : Nat) : Int) = (x : Int) / 4 := by omega
  rw [e] at a1
  have a1' : bits BinOp.and IntKind.u64 ((x : Int) / 4) 3689348814741910323 = ((x / 4 &&& 3689348814741910323 : Nat) : Int) := a1
  have a2' : bits BinOp.and IntKind.u64 (x : Int) 3689348814741910323 = ((x &&& 3689348814741910323 : Nat) : Int) := a2
  rw [a1', a2', IntKind.wrap_u64]
  unfold s2
  omega
theorem e_s3 (x : Nat) (hx : x ≤ 7378697629483820646) : bits BinOp.and IntKind.u64 (IntKind.u64.wrap ((x : Int) / 16 + (x : Int))) 1085102592571150095 = (s3 x : Int) ∧ s3 x ≤ 1085102592571150095 := by
  have h1 : (x / 16 + x) &&& 1085102592571150095 ≤ 1085102592571150095 := Nat.and_le_right
  have e : IntKind.u64.wrap ((x : Int) / 16 + (x : Int)) = ((x / 16 + x : Nat) : Int) := by rw [IntKind.wrap_u64]; omega
  rw [e]
  have a1 := u64_and_nat (x / 16 + x) 1085102592571150095 (by omega) (by decide)
  exact ⟨a1, h1⟩
theorem e_add (T d : Nat) (D : Int) (hD : (d : Int) = D) (h : T + T / d < 2 ^ 64) : IntKind.u64.wrap ((T : Int) + (T : Int) / D) = ((T + T / d : Nat) : Int) := by
  subst hD
  rw [IntKind.wrap_u64, show (T : Int) / (d : Int) = ((T / d : Nat) : Int) by rw [Int.natCast_ediv]]
  generalize T / d = q at *
  omega
theorem e_127 (T : Nat) (h : T < 9223372036854775808) : bits BinOp.and IntKind.i64 (T : Int) 127 = ((T % 128 : Nat) : Int) := by
  have e : T &&& 127 = T % 128 := Nat.and_two_pow_sub_one_eq_mod T 7
  have h1 : (BitVec.ofInt 64 (T : Int)).toNat = T := by
    rw [BitVec.ofInt_natCast, BitVec.toNat_ofNat]; exact Nat.mod_eq_of_lt (by omega)
  have h2 : (BitVec.ofInt 64 (127 : Int)).toNat = 127 := by rfl
  show IntKind.i64.wrap ((BitVec.ofInt 64 (T : Int) &&& BitVec.ofInt 64 (127 : Int)).toNat : Int) = _
  rw [BitVec.toNat_and, h1, h2, e]
  exact IntWalk.i64_in _ (by omega)
end Go.Proofs.YtoblapnnpjgpnaaGreatDoor.Vc
namespace Go.Proofs.YtoblapnnpjgpnaaGreatDoor.Vc
open Go.RowKit
open VecM
/-- all places of a row -/
def Ls (X : Nat) : List Nat := L X 256
def firstI : List Nat → Int
  | [] => -1
  | c :: _ => (c : Int)
theorem Ls_words {X n : Nat} (hX : X < 2 ^ n) (hn : n ≤ 256) : L X (64 * mw n) = Ls X := by
  unfold Ls mw
  rw [L_more hX (by omega : n ≤ 64 * ((n + 63) / 64)), L_more hX hn]
theorem L_app (X a b : Nat) : ∃ r, L X (a + b) = L X a ++ r := by
  unfold L
  rw [List.range_add, List.filter_append]
  exact ⟨_, rfl⟩
theorem first_at {X k : Nat} (hk : k < 4) (h : L X (64 * k) = []) (h0 : word X k ≠ 0) : firstI (Ls X) = ((64 * k + Lib.ctz 64 (word X k) : Nat) : Int) := by
  obtain ⟨c, hc, hlt, h1, h2, h3⟩ := low_bits (word X k) h0 (word_lt X k)
  obtain ⟨r, hr⟩ := L_app X (64 * (k + 1)) (256 - 64 * (k + 1))
  rw [show 64 * (k + 1) + (256 - 64 * (k + 1)) = 256 by omega, L_step, h, L_low _ c 64 hlt h1 h2] at hr
  unfold Ls
  rw [hr, hc]; rfl
theorem step_nil {X k : Nat} (h : L X (64 * k) = []) (h0 : word X k = 0) : L X (64 * (k + 1)) = [] := by
  rw [L_step, h, h0, L_zero]; rfl
theorem L_none (X : Nat) : L X (64 * 0) = [] := rfl
set_option maxRecDepth 100000 in
theorem first_nil (w : World) : Calls Tryz.prog 97 #[.pointer none] w fun e w' => e = .returned (.int .i64 (-1)) ∧ w = w' := by
  go_enter Tryz.func97, Tryz.ntmps97
  go_wp2_with fail
  go_ret
  exact ⟨rfl, rfl⟩
set_option maxRecDepth 100000 in
set_option maxHeartbeats 1600000 in
theorem first_any (g h n X : Nat) (w : World) (v : VecAt w g h n X) (ht : DTab w) : Calls Tryz.prog 97 #[.pointer (some ⟨g, 0, none⟩)] w fun e w' => e = .returned (.int .i64 (firstI (Ls X))) ∧ w = w' := by
  obtain ⟨cap, h1, h2, c0, c1⟩ := v.cells
  have hm := mw_le v.1
  have HV := Lib.hid v
  have HT := Lib.hid ht
  clear v ht
  go_enter Tryz.func97, Tryz.ntmps97
  go_wp2_with fail
  go_loop [12] (fun i => ∃ k : Nat, k ≤ mw n ∧ i = .int .i64 k ∧ Hid (L X (64 * k) = [])) (fun i => mw n - (intOf i).toNat)
  case atStart => exact ⟨0, by omega, rfl, L_none X⟩
  case round =>
    obtain ⟨k, hk, rfl, hL⟩ := hrel
    by_cases hlt : k < mw n
    · have hc := HV.out.at_ hlt
      have hw := word_lt X k
      by_cases h0 : word X k = 0
      · have HN := Lib.hid (step_nil hL.out h0)
        rw [h0] at hc
        clear h0 hw hL
        go_wp2_with fail
        go_round
        case rel => exact ⟨k + 1, by omega, by go_num, HN⟩
        case measure => simp [intOf]; omega
      · have HF := Lib.hid (first_at (by omega) hL.out h0)
        have HZ := Lib.hid (tz_any (word X k) w HT.out hw h0)
        have hcz : Lib.ctz 64 (word X k) < 64 := (Lib.lowest_bit 64 _ h0 hw).2
        generalize Lib.ctz 64 (word X k) = z at *
        have hne : ((word X k : Int) != 0) = true := by simp; omega
        generalize word X k = x at *
        clear h0 hw hL
        go_wp2_with fail
        refine HZ.out.mono ?_
        rintro e w' ⟨rfl, rfl⟩
        go_wp2_with fail
        go_ret
        refine ⟨?_, rfl⟩
        rw [HF.out]
        show Ending.returned (.int .i64 _) = _
        congr 2
        push_cast
        omega
    · obtain rfl : mw n = k := by omega
      have HF : Hid (firstI (Ls X) = -1) := by
        show _ = _
        rw [← Ls_words HV.out.2.1 HV.out.1, hL.out]; rfl
      clear hL
      go_wp2_with fail
      go_ret
      exact ⟨by rw [HF.out]; rfl, rfl⟩
theorem L_le (X n : Nat) : (L X n).length ≤ n := by
  unfold L
  have := List.length_filter_le X.testBit (List.range n)
  rwa [List.length_range] at this
def ListOk (X : Nat) (w : World) (e : Ending) (w' : World) : Prop :=
  ∃ A c, e = .returned (.slice A (Ls X).length c) ∧ Hid (w'.ownsRow w.heap.size 3 1 (.slice A (Ls X).length c) (Ls X).length (nv ((Ls X).map fun i : Nat => (i : Int)))) ∧ Hid (Below w.heap.size w w')
theorem infoI64 : (Tryz.prog.info? 3).map (fun i => (i.zero, i.size, i.bytes)) = some (some (.int .i64 0), 1, 8) := by kernel_rfl
set_option maxRecDepth 100000 in
theorem list_nil (w : World) : Calls Tryz.prog 43 #[.pointer none] w fun e w' => e = .returned (.slice none 0 0) ∧ w = w' := by
  go_enter Tryz.func43, Tryz.ntmps43
  go_wp2_with fail
  go_ret
  exact ⟨rfl, rfl⟩
def ni (l : List Nat) : List Value := nv (l.map fun i : Nat => (i : Int))
theorem ni_append (l m : List Nat) : ni (l ++ m) = ni l ++ ni m := by simp [ni, nv]
theorem ni_length (l : List Nat) : (ni l).length = l.length := by simp [ni, nv]
theorem ni_one (l : List Nat) : ∀ u ∈ ni l, u.oneCell' = true := by
  intro u hu
  simp only [ni, nv, List.map_map, List.mem_map] at hu
  obtain ⟨x, _, rfl⟩ := hu
  rfl
set_option maxRecDepth 100000 in
set_option maxHeartbeats 3200000 in
theorem list_any (g h n X : Nat) (w : World) (v : VecAt w g h n X) (ht : DTab w) : Calls Tryz.prog 43 #[.pointer (some ⟨g, 0, none⟩)] w (ListOk X w) := by
  obtain ⟨i0, hi, hz0, hz1, hz2⟩ := info_parts infoI64
  obtain ⟨cap, h1, h2, c0, c1⟩ := v.cells
  have hm := mw_le v.1
  have HV := Lib.hid v
  have HT := Lib.hid ht
  clear v ht
  go_enter Tryz.func43, Tryz.ntmps43
  go_wp2_with fail
  go_loopw [3, 13] (fun q i wr => ∃ k s : Nat, k ≤ mw n ∧ s ≤ 256 ∧ i = .int .i64 k ∧ Hid ((L X (64 * k)).length = s) ∧ Hid (wr.ownsRow w.heap.size 3 1 q s (ni (L X (64 * k)))) ∧ Hid (Below w.heap.size w wr)) (fun _ i _ => mw n - (intOf i).toNat)
  case atStart => exact ⟨0, 0, by omega, by omega, rfl, rfl, World.ownsRow_nil _ _ _ _, Below.refl _ _⟩
  case round =>
    obtain ⟨k, s, hk, hs, rfl, hL, hown, hb⟩ := hrel
    by_cases hlt : k < mw n
    · have hVr := Lib.hid (HV.out.below hb.out)
      have hc := hVr.out.at_ hlt
      have hw := word_lt X k
      have HLs := Lib.hid (L_step X k)
      have hk4 : k < 4 := by omega
      have hLm : Hid ((L X (64 * (k + 1))).length ≤ 256) := Nat.le_trans (L_le _ _) (by omega)
      generalize hx : word X k = x at *
      obtain ⟨wo, rfl⟩ : ∃ wo : World, wo = wr := ⟨_, rfl⟩
      have HHS := Lib.hid hb.out.size
      go_wp2_with fail
      go_loopw [3, 5] (fun q y wr => ∃ y' s' : Nat, y = .int .u64 y' ∧ y' < 2 ^ 64 ∧ s' ≤ 256 ∧ Hid ((L X (64 * (k + 1))).length = s' + (L y' 64).length) ∧ Hid (∃ D, D ++ (L y' 64).map (64 * k + ·) = L X (64 * (k + 1)) ∧ D.length = s' ∧ wr.ownsRow w.heap.size 3 1 q s' (ni D)) ∧ Hid (Below w.heap.size w wr)) (fun _ y _ => (L (intOf y).toNat 64).length)
      case atStart => exact ⟨x, s, rfl, hw, hs, by show _ = _; rw [HLs.out, List.length_append, List.length_map, hL.out], ⟨_, HLs.out.symm, hL.out, hown.out⟩, hb⟩
      case round =>
        obtain ⟨y, s2, rfl, hy, hs2, hlen, hD, hb2⟩ := hrel
        by_cases h0 : y = 0
        · subst h0
          have HN : Hid ((L X (64 * (k + 1))).length = s2) := by
            show _ = _
            rw [hlen.out, L_zero]; rfl
          obtain ⟨D, hD1, hD2, hD3⟩ := hD.out
          rw [L_zero, List.map_nil, List.append_nil] at hD1
          rw [hD1] at hD3
          have HO := Lib.hid hD3
          clear hD1 hD2 hD3 hD hlen
          go_wp2_with fail
          go_roundw
          case rel => exact ⟨k + 1, s2, by omega, hs2, by go_num, HN, HO, hb2⟩
          case measure => simp [intOf]; omega
        · obtain ⟨c, hc1, hc2, hc3, hc4, hc5⟩ := low_bits y h0 hy
          have hLL := L_low y c 64 hc2 hc3 hc4
          obtain ⟨D, hD1, hD2, hD3⟩ := hD.out
          have HZ := Lib.hid (fun w' (h : DTab w') => tz_any y w' h hy h0)
          rw [hc1] at HZ
          have hTr := HT.out.below hb2.out (by have := HT.out.1; exact this)
          have hyn : ((y : Int) != 0) = true := by simp; omega
          have hyz : 1 ≤ (y : Int) := by omega
          have hlen2 : Hid ((L X (64 * (k + 1))).length = s2 + 1 + (L (clr y c) 64).length) := by
            show _ = _
            rw [hlen.out, hLL, List.length_cons]; omega
          have hs3 : s2 + 1 ≤ 256 := by have := hLm.out; rw [hlen2.out] at this; omega
          have hDD : Hid ((D ++ [64 * k + c]) ++ (L (clr y c) 64).map (64 * k + ·) = L X (64 * (k + 1))) := by
            show _ = _
            rw [← hD1, hLL]; simp
          have hclr : clr y c < 2 ^ 64 := clr_lt hy
          have HA : Hid (bits BinOp.and IntKind.u64 (y : Int) ((y : Int) - 1) = (clr y c : Int)) := by
            show _ = _
            rw [show (y : Int) - 1 = ((y - 1 : Nat) : Int) by omega, u64_and_nat _ _ hy (by omega), hc5]
          have hms : (L (clr y c) 64).length < (L y 64).length := by rw [hLL]; simp
          have HMS := Lib.hid hms
          have HDL := Lib.hid hD2
          have HO := Lib.hid hD3
          obtain ⟨Z, hZ⟩ : ∃ Z, clr y c = Z := ⟨_, rfl⟩
          rw [hZ] at hlen2 hDD hclr HA HMS
          have HTR := Lib.hid hTr
          have hb2s := hb2.out.size
          clear hlen hD hD1 hD2 hD3 hc1 hc3 hc4 hc5 hLL hms hZ hTr h0
          have hsum : Hid ([Value.int .i64 ((k : Int) * 64 + (c : Int))] = ni [64 * k + c]) := by
            show _ = _
            simp only [ni, nv, List.map_cons, List.map_nil]
            congr 2
            push_cast
            omega
          go_wp2_with fail
          refine (HZ.out _ HTR.out).mono ?_
          rintro e w' ⟨rfl, rfl⟩
          go_wp2_with (first | (rw [HA.out]) | (at_builtin; refine wpList_app rfl (.tmp 24) (.tmp 30) 105 rfl w.heap.size 3 i0 (.int .i64 0) 8 Tryz.underlying105 hi hz0 hz1 hz2 rfl _ s2 (ni D) rfl (own_below HO.out ((Below.refl _ _).alloc (Nat.le_refl _) _)) _ _ 1 1 _ rfl (row_new _ _ _ _) (by rw [hsum.out]; exact ni_one _) (by unfold maxLen; omega) (by omega) (by simp; omega) ?_; intro v2 w2 hown2 hg2 hat2))
          have hal : Below wr.heap.size wr (wr.alloc (.cells #[.int .i64 ((k : Int) * 64 + (c : Int))] 3)) := (Below.refl _ _).alloc (Nat.le_refl _) _
          have HB2 : Hid (Below w.heap.size w w2) := below_app (hb2.out.trans (hal.mono hb2s)) (by simp; omega) (own_below HO.out hal) (Nat.le_refl _) hg2
          have HO2 : Hid (w2.ownsRow w.heap.size 3 1 v2 (s2 + 1) (ni (D ++ [64 * k + c]))) := by
            show World.ownsRow _ _ _ _ _ _ _
            rw [ni_append, ← hsum.out]; exact hown2
          clear hg2 hat2 hown2 hal HO
          go_roundw
          case rel => exact ⟨Z, s2 + 1, rfl, hclr, hs3, hlen2, ⟨_, hDD.out, by rw [List.length_append, HDL.out]; rfl, HO2.out⟩, HB2⟩
          case measure => exact HMS.out
    · obtain rfl : mw n = k := by omega
      have e := Ls_words HV.out.2.1 HV.out.1
      rw [e] at hL hown
      have hLL := hL.out
      subst hLL
      obtain ⟨A2, c2, rfl, _⟩ := own_slice hown.out
      clear e
      go_wp2_with fail
      go_ret
      exact ⟨A2, c2, rfl, hown, hb⟩
end Go.Proofs.YtoblapnnpjgpnaaGreatDoor.Vc
namespace Go.Proofs.YtoblapnnpjgpnaaGreatDoor.Vc
open Go.RowKit
open VecM
def QB (B : Bool) (w : World) (e : Ending) (w' : World) : Prop := e = .returned (.bool B) ∧ ∃ q, w' = w.drewN q
theorem drewN_zero (w : World) : w.drewN 0 = w := rfl
theorem equalIn_nil_some {P : Program} (w : World) (d : Nat) (t : TypeId) (a : Addr) (h : P.underlying t = some (.pointer (P.pointee t))) : (Op.equalIn (d + 1) t (.pointer none) (.pointer (some a))).run P w = .ok false w := by
  simp [Op.equalIn, run_underlying h]
theorem eql_nil_some {P : Program} (w : World) (t : TypeId) (a : Addr) (h : P.underlying t = some (.pointer (P.pointee t))) : (binOp .eql t (.pointer none) (.pointer (some a))).run P w = .ok (.bool false) w := by
  have e : (Op.equal t (.pointer none) (.pointer (some a))).run P w = .ok false w := equalIn_nil_some w 9999 t a h
  simp only [binOp]
  simp [e]
theorem quiet_QB {P : Program} {f : FuncId} {args : Array Value} {w : World} {n : Nat} {B : Bool} (h : Calls P f args (w.drewN n) (QB B (w.drewN n))) : Calls P f args (w.drewN n) fun e w'' => e = .returned (.bool B) ∧ ∃ m, w'' = w.drewN m :=
  Calls.quiet_of (h.mono fun _ _ h => h)
end Go.Proofs.YtoblapnnpjgpnaaGreatDoor.Vc
namespace Go.Proofs.YtoblapnnpjgpnaaGreatDoor.Vc
open Go.RowKit
open VecM
/-- the words of a row -/
def wv (X m : Nat) : List Value := (List.range m).map fun k => .int .u64 (word X k : Int)
theorem wv_length (X m : Nat) : (wv X m).length = m := by simp [wv]
theorem wv_get (X m k : Nat) (h : k < m) : (wv X m)[k]? = some (.int .u64 (word X k : Int)) := by simp [wv, h]
theorem wv_one (X m : Nat) : ∀ u ∈ wv X m, u.oneCell' = true := by
  intro u hu
  simp only [wv, List.mem_map] at hu
  obtain ⟨x, _, rfl⟩ := hu
  rfl
theorem VecAt.row {w : World} {g h n X : Nat} (v : VecAt w g h n X) : Row w w.heap.size (some ⟨h, 0, none⟩) (mw n) (wv X (mw n)) := by
  refine ⟨wv_length _ _, fun _ => ⟨h, 0, rfl, v.lt.2, fun j u hu => ?_⟩⟩
  have hj : j < mw n := by have := (List.getElem?_eq_some_iff.1 hu).1; rwa [wv_length] at this
  rw [wv_get _ _ _ hj] at hu
  rw [Nat.zero_add, v.at_ hj, ← hu]
def CloneOk (X m : Nat) (w : World) (e : Ending) (w' : World) : Prop :=
  ∃ h c, e = .returned (.slice (some ⟨h, 0, none⟩) m c) ∧ Hid (m ≤ c ∧ c ≤ 9223372036854775807) ∧ Hid (w'.ownsRow w.heap.size 41 1 (.slice (some ⟨h, 0, none⟩) m c) m (wv X m)) ∧ Hid (h < w'.heap.size ∧ w.heap.size ≤ h) ∧ Below w.heap.size w w'
set_option maxRecDepth 100000 in
set_option maxHeartbeats 800000 in
theorem cloneW_any (B m cap h0 X : Nat) (w : World) (hl : Row w B (some ⟨h0, 0, none⟩) m (wv X m)) (hm : m ≤ 4) (hB : B ≤ w.heap.size) :
    Calls Tryz.prog 164 #[.slice (some ⟨h0, 0, none⟩) m cap] w (CloneOk X m w) := by
  obtain ⟨i0, hi, hz0, hz1, hz2⟩ := info_parts infoU64
  have hq : ∀ (w : World) (a : Option Addr) (n c : Nat), (binOp .eql 145 (.slice a n c) (.slice none 0 0)).run Tryz.prog w = .ok (.bool a.isNone) w := fun w a n c => Lib.run_eql_slice_nil w _ _ a n c 0 0 Tryz.underlying145
  have HR := Lib.hid hl
  clear hl
  go_enter Tryz.func164, Tryz.ntmps164
  have hown0 : (w.alloc (.cells #[] 41)).ownsRow w.heap.size 41 1 (.slice (some ⟨w.heap.size, 0, none⟩) 0 0) 0 [] := own_lit (cs := #[]) rfl (Nat.le_refl _) rfl (by unfold maxLen; omega)
  have HO0 := Lib.hid hown0
  clear hown0
  go_wp2_with (at_builtin; refine wpList_app rfl (.tmp 5) (.tmp 6) 145 rfl w.heap.size 41 i0 (.int .u64 0) 8 Tryz.underlying145 hi hz0 hz1 hz2 rfl _ 0 [] rfl HO0.out B _ m cap (wv X m) rfl (HR.out.alloc hB _) (wv_one X m) (by unfold maxLen; omega) (by omega) (by simp) ?_; intro v2 w2 hown2 hg2 hat2)
  obtain ⟨A2, c2, rfl, hc2, hc3, hA2⟩ := own_slice hown2
  have hb := below_app ((Below.refl w.heap.size w).alloc (Nat.le_refl _) (.cells #[] 41)) (by simp) HO0.out (Nat.le_refl _) hg2
  rw [Nat.zero_add, List.nil_append] at hown2
  unfold maxLen at hc3
  go_ret
  cases A2 with
  | none =>
    exfalso
    rcases hat2 with h | h
    · have h' : (none : Option Nat) = some w.heap.size := h
      cases h'
    · have h' : (none : Option Nat) = some (w.alloc (.cells #[] 41)).heap.size := h
      cases h'
  | some a =>
    rcases hA2 with h2 | ⟨g2, h2, hg⟩
    · cases h2
    · injection h2 with h2
      subst h2
      have hlt : g2 < w2.heap.size := by
        rcases hown2.2 with ⟨h0, _⟩ | ⟨g3, _, _, hv, _, hg3, _⟩
        · cases h0
        · injection hv with e1 _ _
          injection e1 with e1
          injection e1 with e1
          subst e1
          exact (Array.getElem?_eq_some_iff.1 hg3).1
      exact ⟨g2, c2, by rw [Nat.zero_add]; rfl, ⟨by omega, by omega⟩, hown2, ⟨hlt, hg⟩, hb⟩
abbrev SCopy (w : World) (g h n cap : Nat) (W : World) : Prop :=
  Below w.heap.size w W ∧ W.cell? ⟨g, 0, none⟩ = some (.int .i64 (n : Int)) ∧ W.cell? ⟨g, 1, none⟩ = some (.slice (some ⟨h, 0, none⟩) (mw n) cap)
theorem copy_keep {w : World} {g h n cap : Nat} (hg : g < w.heap.size) (c0 : w.cell? ⟨g, 0, none⟩ = some (.int .i64 (n : Int))) (c1 : w.cell? ⟨g, 1, none⟩ = some (.slice (some ⟨h, 0, none⟩) (mw n) cap)) (W : World) (hW : Below w.heap.size w W) : SCopy w g h n cap W :=
  ⟨hW, by rw [hW.cell (p := ⟨g, 0, none⟩) hg]; exact c0, by rw [hW.cell (p := ⟨g, 1, none⟩) hg]; exact c1⟩
theorem copy_next {w W W' : World} {g h n cap : Nat} (hs : SCopy w g h n cap W) (hb : Below W.heap.size W W') : Below w.heap.size w W' := hs.1.trans (hb.mono hs.1.size)
theorem copy_below {w W : World} {g h n cap : Nat} (hs : SCopy w g h n cap W) : Below w.heap.size w W := hs.1
theorem copy_drew {w W : World} {g h n cap : Nat} (hs : SCopy w g h n cap W) : Below w.heap.size w W.drew := hs.1.drew
theorem copy_alloc {w W : World} {g h n cap : Nat} (hs : SCopy w g h n cap W) (o : Obj) : Below w.heap.size w (W.alloc o) := hs.1.alloc hs.1.size o
set_option maxRecDepth 100000 in
theorem copy_nil (w : World) : Calls Tryz.prog 141 #[.pointer none] w fun e w' => e = .returned (.pointer none) ∧ w = w' := by
  go_enter Tryz.func141, Tryz.ntmps141
  go_wp2_with fail
  go_ret
  exact ⟨rfl, rfl⟩
theorem vec_of_own {w : World} {h n X c B : Nat} (hn : n ≤ 256) (hX : X < 2 ^ n) (ho : w.ownsRow B 41 1 (.slice (some ⟨h, 0, none⟩) (mw n) c) (mw n) (wv X (mw n))) (hc : mw n ≤ c ∧ c ≤ 9223372036854775807) (hh : h < w.heap.size) :
    VecAt (w.alloc (.cells #[.int .i64 (n : Int), .slice (some ⟨h, 0, none⟩) (mw n) c] 147)) w.heap.size h n X := by
  have hb : Below w.heap.size w (w.alloc (.cells #[.int .i64 (n : Int), .slice (some ⟨h, 0, none⟩) (mw n) c] 147)) := (Below.refl _ _).alloc (Nat.le_refl _) _
  rcases ho.2 with ⟨h0, _⟩ | ⟨g, cap, cur, hv, _, hg, h1, h2, h3, h4⟩
  · cases h0
  · injection hv with e1 e2 e3
    injection e1 with e1
    injection e1 with e1
    subst e1 e3
    rw [Nat.mul_one] at h3 h4
    refine ⟨hn, hX, by omega, c, cur, heap_alloc_new _ _, (hb.block h hh).trans hg, hc.1, hc.2, by omega, fun k hk => ?_⟩
    have := wv_get X (mw n) k hk
    rw [← h4, List.getElem?_take_of_lt hk] at this
    simpa using this
set_option maxRecDepth 100000 in
set_option maxHeartbeats 1600000 in
theorem copy_any (g h n X : Nat) (w : World) (v : VecAt w g h n X) : Calls Tryz.prog 141 #[.pointer (some ⟨g, 0, none⟩)] w (OfOk n X w) := by
  obtain ⟨cap, _, _, c0, c1⟩ := v.cells
  have hkeep := Lib.hid (copy_keep v.lt.1 c0 c1)
  have HC := Lib.hid (fun (W : World) (hW : Below w.heap.size w W) => cloneW_any w.heap.size (mw n) cap h X W (v.row.below hW) (mw_le v.1) hW.size)
  have HV := Lib.hid v
  clear v
  go_enter Tryz.func141, Tryz.ntmps141
  go_wp2_with fail
  go_region_held3 (SCopy w g h n cap)
    (first | exact hkeep.out _ (copy_next (by assumption) (by assumption)) | exact hkeep.out _ (Below.refl _ _).drew | exact hkeep.out _ (Below.refl _ _) | exact hkeep.out _ (copy_alloc (by assumption) _) | exact hkeep.out _ (copy_drew (by assumption)))
    (first
      | (go_at_call 164; refine (HC.out _ (copy_below (by assumption))).mono ?_; rintro e w' ⟨h2, c2, rfl, hcc, hown, hsz, hbel⟩))
  have HF := Lib.hid (vec_of_own HV.out.1 HV.out.2.1 hown.out hcc.out hsz.out.1)
  have hall := copy_below (by assumption : SCopy w g h n cap (w'.alloc (.cells #[.int .i64 (n : Int), .slice (some ⟨h2, 0, none⟩) (mw n) c2] 147)))
  have hw' : w.heap.size ≤ w'.heap.size := by have := hbel.size; exact this
  clear hkeep HC c0 c1 hown hcc
  go_wp2_with fail
  go_ret
  exact ⟨w'.heap.size, h2, rfl, hw', hsz.out.2, HF, hall⟩
theorem word_mod (Y k j : Nat) : word (Y % 2 ^ (64 * k)) j = if j < k then word Y j else 0 := by
  apply Nat.eq_of_testBit_eq; intro i
  rw [word_bit, Nat.testBit_mod_two_pow]
  by_cases h : j < k
  · rw [if_pos h, word_bit]
    by_cases hi : i < 64
    · have : 64 * j + i < 64 * k := by omega
      simp [hi, this]
    · simp [hi]
  · rw [if_neg h]
    by_cases hi : i < 64
    · have : ¬ 64 * j + i < 64 * k := by omega
      simp [this]
    · simp [hi]
def mixX (X Y k : Nat) : Nat := X ^^^ (Y % 2 ^ (64 * k))
theorem mixX_zero (X Y : Nat) : mixX X Y 0 = X := by simp [mixX, Nat.mod_one]
theorem mixX_all {X Y n m : Nat} (hY : Y < 2 ^ n) (hm : n ≤ 64 * m) : mixX X Y m = X ^^^ Y := by
  unfold mixX; rw [Nat.mod_eq_of_lt (Nat.lt_of_lt_of_le hY (Nat.pow_le_pow_right (by decide) hm))]
theorem mixX_lt {X Y n k : Nat} (hX : X < 2 ^ n) (hY : Y < 2 ^ n) : mixX X Y k < 2 ^ n :=
  Nat.xor_lt_two_pow hX (Nat.lt_of_le_of_lt (Nat.mod_le _ _) hY)
theorem mixX_word (X Y k j : Nat) : word (mixX X Y k) j = if j < k then word X j ^^^ word Y j else word X j := by
  unfold mixX; rw [word_xor, word_mod]
  by_cases h : j < k
  · rw [if_pos h, if_pos h]
  · rw [if_neg h, if_neg h]; simp
def XorOk (g h n Z : Nat) (w : World) (e : Ending) (w' : World) : Prop := e = .returned (.bool true) ∧ Hid (VecAt w' g h n Z) ∧ Hid (w.grownBy w' (some h))
theorem grown_drewN (w : World) (q : Nat) (r : Option Nat) : w.grownBy (w.drewN q) r := ⟨rfl, rfl, rfl, Nat.le_refl _, fun _ _ _ => rfl⟩
set_option maxRecDepth 100000 in
theorem xor_nil (p : Option Addr) (w : World) : Calls Tryz.prog 129 #[.pointer none, .pointer p] w (QB false w) := by
  go_enter Tryz.func129, Tryz.ntmps129
  go_wp2_with fail
  go_quiet (fail)
  go_wp2_with fail
  go_ret
  exact ⟨rfl, _, rfl⟩
set_option maxRecDepth 100000 in
theorem xor_vn (a : Addr) (w : World) : Calls Tryz.prog 129 #[.pointer (some a), .pointer none] w (QB false w) := by
  go_enter Tryz.func129, Tryz.ntmps129
  go_wp2_with fail
  go_quiet (fail)
  go_wp2_with fail
  go_ret
  exact ⟨rfl, _, rfl⟩
set_option maxRecDepth 100000 in
theorem xor_ne (g h n X g' h' n' Y : Nat) (w : World) (v : VecAt w g h n X) (u : VecAt w g' h' n' Y) (hn : n ≠ n') : Calls Tryz.prog 129 #[.pointer (some ⟨g, 0, none⟩), .pointer (some ⟨g', 0, none⟩)] w (QB false w) := by
  obtain ⟨cap, _, _, c0, c1⟩ := v.cells
  obtain ⟨cap2, _, _, d0, d1⟩ := u.cells
  have hne : ((n : Int) != (n' : Int)) = true := by simp; omega
  clear v u hn
  go_enter Tryz.func129, Tryz.ntmps129
  go_wp2_with fail
  go_quiet (fail)
  go_wp2_with fail
  go_ret
  exact ⟨rfl, _, rfl⟩
set_option maxRecDepth 100000 in
set_option maxHeartbeats 1600000 in
theorem xor_any (g h n X g' h' Y : Nat) (w : World) (v : VecAt w g h n X) (u : VecAt w g' h' n Y) (hh : h ≠ h') (hg : h ≠ g') : Calls Tryz.prog 129 #[.pointer (some ⟨g, 0, none⟩), .pointer (some ⟨g', 0, none⟩)] w (XorOk g h n (X ^^^ Y) w) := by
  obtain ⟨cap, _, _, c0, c1⟩ := v.cells
  obtain ⟨cap2, _, _, d0, d1⟩ := u.cells
  have hm := mw_le v.1
  have HV := Lib.hid v
  have HU := Lib.hid u
  have HH := Lib.hid (And.intro hh hg)
  clear v u hh hg
  go_enter Tryz.func129, Tryz.ntmps129
  go_wp2_with fail
  go_quiet (fail)
  go_wp2_with fail
  clear c0 c1 d0 d1
  go_loopw [29] (fun i wr => ∃ k : Nat, k ≤ mw n ∧ i = .int .i64 k ∧ Hid (VecAt wr g h n (mixX X Y k)) ∧ Hid (VecAt wr g' h' n Y) ∧ Hid (w.grownBy wr (some h))) (fun i _ => mw n - (intOf i).toNat)
  case atStart => exact ⟨0, by omega, rfl, by rw [mixX_zero]; exact HV.out.drewN _, HU.out.drewN _, grown_drewN _ _ _⟩
  case round =>
    obtain ⟨k, hk, rfl, hv, hu, hgr⟩ := hrel
    by_cases hlt : k < mw n
    · obtain ⟨cap3, _, _, c0, c1⟩ := hv.out.cells
      have e1 := hv.out.at_ hlt
      have e2 := hu.out.at_ hlt
      have hf := hv.out.frozen k
      rw [mixX_word, if_neg (by omega)] at e1
      have hx := word_lt X k
      have hy := word_lt Y k
      have HS : Hid (∀ u, u = ((word X k ^^^ word Y k : Nat) : Int) → VecAt (wr.setCell ⟨h, k, none⟩ (.int .u64 u)) g h n (mixX X Y (k + 1))) := fun u hu2 => hv.out.store hlt (mixX_lt HV.out.2.1 HU.out.2.1) (by rw [hu2, mixX_word, if_pos (by omega)]) fun j _ hj => by
        rw [mixX_word, mixX_word]
        by_cases h1 : j < k
        · rw [if_pos h1, if_pos (by omega)]
        · rw [if_neg h1, if_neg (by omega)]
      have HU2 : Hid (∀ u, VecAt (wr.setCell ⟨h, k, none⟩ u) g' h' n Y) := fun u => hu.out.grown (grown_set1 _ _ _ _) HH.out.2 HH.out.1
      have HG2 : Hid (∀ u, w.grownBy (wr.setCell ⟨h, k, none⟩ u) (some h)) := fun u => hgr.out.trans (grown_set1 _ _ _ _)
      have HX : Hid (bits BinOp.xor IntKind.u64 (word X k : Int) (word Y k : Int) = ((word X k ^^^ word Y k : Nat) : Int)) := u64_xor_nat _ _ hx hy
      generalize word X k = x at *
      generalize word Y k = y at *
      clear hv hu hgr
      go_wp2_with fail
      go_roundw
      case rel => exact ⟨k + 1, by omega, by go_num, HS.out _ HX.out, HU2.out _, HG2.out _⟩
      case measure => simp [intOf]; omega
    · obtain rfl : mw n = k := by omega
      have HF : Hid (VecAt wr g h n (X ^^^ Y)) := by
        show VecAt _ _ _ _ _
        rw [← mixX_all (m := mw n) HU.out.2.1 (by unfold mw; omega)]; exact hv.out
      clear hv
      go_wp2_with fail
      go_ret
      exact ⟨rfl, HF, hgr⟩
end Go.Proofs.YtoblapnnpjgpnaaGreatDoor.Vc
namespace Go.Proofs.YtoblapnnpjgpnaaGreatDoor.Vc
open Go.RowKit
open VecM
def byteN (X j : Nat) : Nat := X / 2 ^ (8 * j) % 2 ^ 8
theorem byteN_bit (X j i : Nat) : (byteN X j).testBit i = (decide (i < 8) && X.testBit (8 * j + i)) := by
  unfold byteN; rw [Nat.testBit_mod_two_pow, Nat.testBit_div_two_pow, Nat.add_comm]
theorem byteN_word (X j : Nat) : word X (j / 8) / 2 ^ (j % 8 * 8) % 2 ^ 8 = byteN X j := by
  apply Nat.eq_of_testBit_eq; intro i
  rw [byteN_bit, Nat.testBit_mod_two_pow, Nat.testBit_div_two_pow, word_bit]
  by_cases hi : i < 8
  · have h1 : i + j % 8 * 8 < 64 := by omega
    have h2 : 64 * (j / 8) + (i + j % 8 * 8) = 8 * j + i := by omega
    simp [hi, h1, h2]
  · simp [hi]
def byteU (X j : Nat) : UInt8 := UInt8.ofNat (byteN X j)
theorem byteU_toNat (X j : Nat) : (byteU X j).toNat = byteN X j := by
  unfold byteU byteN
  have : X / 2 ^ (8 * j) % 2 ^ 8 < 256 := Nat.mod_lt _ (by decide)
  simp
def bw (n : Nat) : Nat := (n + 7) / 8
/-- a row's bytes -/
def bl (X n : Nat) : List UInt8 := fill (bw n) (byteU X) (bw n)
theorem bl_length (X n : Nat) : (bl X n).length = bw n := fill_length _ _ _
theorem infoU8 : (Tryz.prog.info? 5).map (fun i => (i.zero, i.size, i.bytes)) = some (some (.int .u8 0), 1, 1) := by kernel_rfl
theorem madeU8 (m : Nat) (hm : m ≤ 1000000000) : ∀ w : World, (Instr.makeSlice 23 (.int .i64 (m : Int)) (.int .i64 (m : Int))).run Tryz.prog w = .ok (.slice (some ⟨w.heap.size, 0, none⟩) m m) (w.alloc (.cells (Array.replicate m (.int .u8 0)) 5)) := by
  obtain ⟨i0, hi, hz0, hz1, hz2⟩ := info_parts infoU8
  intro w
  have h := run_make (P := Tryz.prog) w 23 5 i0 (.int .u8 0) Tryz.underlying23 hi hz0 .i64 .i64 (m : Int) (m : Int) (by omega) (by omega) (by rw [hz2]; omega) (by omega)
  rw [hz1] at h
  have e : madeCells (Value.int .u8 0).cells m = Array.replicate m (.int .u8 0) := by
    apply Array.toList_inj.1
    rw [Array.toList_replicate]
    exact toList_madeCells_one (.int .u8 0) m
  simpa [e] using h
def BytesOk (l : List UInt8) (w : World) (e : Ending) (w' : World) : Prop :=
  ∃ g, e = .returned (.slice (some ⟨g, 0, none⟩) l.length l.length) ∧ Hid (w'.ownsRow w.heap.size 5 1 (.slice (some ⟨g, 0, none⟩) l.length l.length) l.length (bv l)) ∧ Hid (Below w.heap.size w w')
/-- a row out of its bytes, the first k of them -/
def frN (l : List UInt8) : Nat → Nat
  | 0 => 0
  | k + 1 => frN l k ||| ((l.getD k 0).toNat * 2 ^ (8 * k))
theorem byte_lt (b : UInt8) : b.toNat < 2 ^ 8 := b.toNat_lt
theorem frN_bit (l : List UInt8) (i : Nat) : ∀ k, (frN l k).testBit i = (decide (i / 8 < k) && (l.getD (i / 8) 0).toNat.testBit (i % 8))
  | 0 => by simp [frN]
  | k + 1 => by
    show (frN l k ||| _).testBit i = _
    rw [Nat.testBit_or, frN_bit l i k, Nat.testBit_mul_two_pow]
    by_cases h1 : i / 8 < k
    · have h2 : i / 8 < k + 1 := by omega
      have h3 : ¬ (8 * k ≤ i) := by omega
      simp [h1, h2, h3]
    · by_cases h2 : i / 8 = k
      · have h3 : 8 * k ≤ i := by omega
        have h4 : i - 8 * k = i % 8 := by omega
        subst h2
        simp [h3, h4]
      · have h3 : ¬ i / 8 < k + 1 := by omega
        have h4 : (l.getD k 0).toNat.testBit (i - 8 * k) = false := Nat.testBit_lt_two_pow (Nat.lt_of_lt_of_le (byte_lt _) (Nat.pow_le_pow_right (by decide) (by omega)))
        simp only [h1, h3, h4, decide_false, Bool.false_and, Bool.or_false, Bool.and_false]
theorem frN_word (l : List UInt8) (k j : Nat) : word (frN l (k + 1)) j = if j = k / 8 then word (frN l k) j ||| ((l.getD k 0).toNat * 2 ^ (k % 8 * 8)) else word (frN l k) j := by
  show word (frN l k ||| _) j = _
  rw [word_or]
  have hb := byte_lt (l.getD k 0)
  generalize (l.getD k 0).toNat = b at *
  have e : word (b * 2 ^ (8 * k)) j = if j = k / 8 then b * 2 ^ (k % 8 * 8) else 0 := by
    apply Nat.eq_of_testBit_eq; intro i
    rw [word_bit, Nat.testBit_mul_two_pow]
    by_cases h : j = k / 8
    · rw [if_pos h, Nat.testBit_mul_two_pow]
      by_cases hi : i < 64
      · have h1 : 64 * j + i - 8 * k = i - k % 8 * 8 := by omega
        have h2 : (8 * k ≤ 64 * j + i) = (k % 8 * 8 ≤ i) := by simp only [eq_iff_iff]; omega
        simp only [h1, h2, hi, decide_true, Bool.true_and]
      · have h3 : b.testBit (i - k % 8 * 8) = false := Nat.testBit_lt_two_pow (Nat.lt_of_lt_of_le hb (Nat.pow_le_pow_right (by decide) (by omega)))
        simp [hi, h3]
    · rw [if_neg h]
      by_cases hi : i < 64
      · by_cases h1 : 8 * k ≤ 64 * j + i
        · have h3 : b.testBit (64 * j + i - 8 * k) = false := Nat.testBit_lt_two_pow (Nat.lt_of_lt_of_le hb (Nat.pow_le_pow_right (by decide) (by omega)))
          simp [h3]
        · simp [h1]
      · simp [hi]
  rw [e]
  by_cases h : j = k / 8
  · rw [if_pos h, if_pos h]
  · rw [if_neg h, if_neg h]; simp
/-- the bytes are those of a row of n bits -/
def fits (n : Nat) (l : List UInt8) : Prop := l.length = bw n ∧ (n % 8 ≠ 0 → (l.getD (bw n - 1) 0).toNat < 2 ^ (n % 8))
theorem frN_lt {n : Nat} {l : List UInt8} (h : fits n l) (k : Nat) (hk : k ≤ bw n) : frN l k < 2 ^ n := by
  apply Nat.lt_pow_two_of_testBit
  intro i hi
  rw [frN_bit]
  by_cases h1 : i / 8 < k
  · unfold bw at hk
    have h2 : n % 8 ≠ 0 := by omega
    have h3 : i / 8 = bw n - 1 := by unfold bw; omega
    have h4 := h.2 h2
    rw [← h3] at h4
    rw [Nat.testBit_lt_two_pow (Nat.lt_of_lt_of_le h4 (Nat.pow_le_pow_right (by decide) (by omega)))]
    simp
  · simp [h1]
theorem or_shift (x b s : Nat) (hx : x < 2 ^ 64) (hb : b < 2 ^ 8) (hs : s ≤ 56) : bits .or .u64 (x : Int) (IntKind.u64.wrap ((b : Int) * 2 ^ s)) = ((x ||| (b * 2 ^ s) : Nat) : Int) := by
  have h1 : b * 2 ^ s < 2 ^ 64 := by
    have h2 : 2 ^ s ≤ 2 ^ 56 := Nat.pow_le_pow_right (by decide) hs
    have h3 : b * 2 ^ s ≤ 255 * 2 ^ 56 := Nat.mul_le_mul (by omega) h2
    omega
  have e : IntKind.u64.wrap ((b : Int) * 2 ^ s) = ((b * 2 ^ s : Nat) : Int) := by
    rw [IntKind.wrap_u64, show (b : Int) * 2 ^ s = ((b * 2 ^ s : Nat) : Int) by rw [Int.natCast_mul, Int.natCast_pow]; rfl]
    generalize b * 2 ^ s = q at *
    omega
  rw [e, u64_or_nat _ _ hx h1]
def FromOk (n X : Nat) (w : World) (e : Ending) (w' : World) : Prop :=
  ∃ g h, e = .returned (.tuple #[.pointer (some ⟨g, 0, none⟩), .bool true]) ∧ w.heap.size ≤ g ∧ w.heap.size ≤ h ∧ Hid (VecAt w' g h n X) ∧ Hid (Below w.heap.size w w')
def FromNo (w : World) (e : Ending) (w' : World) : Prop := e = .returned (.tuple #[.pointer none, .bool false]) ∧ Below w.heap.size w w'
end Go.Proofs.YtoblapnnpjgpnaaGreatDoor.Vc
namespace Go.Proofs.YtoblapnnpjgpnaaGreatDoor.Vc
open Go.RowKit
open VecM
structure VV where
  g : Nat
  h : Nat
  n : Nat
  X : Nat
/-- since world w0 the rows l were made, and nothing else that was there has changed -/
structure Bag (w0 w : World) (l : List VV) : Prop where
  below : Below w0.heap.size w0 w
  tab : DTab w0
  at_ : ∀ (i g h n X : Nat), l[i]? = some (⟨g, h, n, X⟩ : VV) → VecAt w g h n X ∧ w0.heap.size ≤ g ∧ w0.heap.size ≤ h
  apart : ∀ (i j : Nat) (a b : VV), i ≠ j → l[i]? = some a → l[j]? = some b → a.g ≠ b.h ∧ a.h ≠ b.h
section
variable {w0 w w' : World} {l : List VV} {g h n X i g' h' n' Y j : Nat}
theorem Bag.start (w0 : World) (ht : DTab w0) : Bag w0 w0 [] := ⟨Below.refl _ _, ht, fun i g h n X hi => (by cases i <;> cases hi), fun i j a b _ hi => (by cases i <;> cases hi)⟩
theorem Bag.dtab (b : Bag w0 w l) : DTab w := b.tab.grow b.below
theorem Bag.read (b : Bag w0 w l) (hb : Below w.heap.size w w') : Bag w0 w' l :=
  ⟨b.below.trans (hb.mono b.below.size), b.tab, fun i g h n X hi => ⟨(b.at_ i g h n X hi).1.below hb, (b.at_ i g h n X hi).2⟩, b.apart⟩
theorem Bag.add (b : Bag w0 w l) (hb : Below w.heap.size w w') (hg : w.heap.size ≤ g) (hh : w.heap.size ≤ h) (v : VecAt w' g h n X) : Bag w0 w' (l ++ [⟨g, h, n, X⟩]) := by
  have hs := b.below.size
  refine ⟨b.below.trans (hb.mono hs), b.tab, fun i g1 h1 n1 X1 hi => ?_, fun i j a c hij hi hj => ?_⟩
  · by_cases e : i < l.length
    · rw [List.getElem?_append_left e] at hi
      exact ⟨(b.at_ i g1 h1 n1 X1 hi).1.below hb, (b.at_ i g1 h1 n1 X1 hi).2⟩
    · rw [List.getElem?_append_right (by omega)] at hi
      have e2 : i - l.length = 0 := by
        rcases Nat.eq_zero_or_pos (i - l.length) with h0 | h0
        · exact h0
        · rw [List.getElem?_eq_none (by simp; omega)] at hi; cases hi
      rw [e2] at hi
      injection hi with hi
      injection hi with a1 a2 a3 a4
      subst a1 a2 a3 a4
      exact ⟨v, by omega, by omega⟩
  · have key : ∀ i a, (l ++ [(⟨g, h, n, X⟩ : VV)])[i]? = some a → (i < l.length ∧ l[i]? = some a ∧ a.g < w.heap.size ∧ a.h < w.heap.size) ∨ (i = l.length ∧ a = ⟨g, h, n, X⟩) := by
      intro i a hi
      by_cases e : i < l.length
      · rw [List.getElem?_append_left e] at hi
        obtain ⟨g1, h1, n1, X1⟩ := a
        have := (b.at_ i g1 h1 n1 X1 hi).1.lt
        exact .inl ⟨e, hi, this⟩
      · right
        rw [List.getElem?_append_right (by omega)] at hi
        have e2 : i - l.length = 0 := by
          rcases Nat.eq_zero_or_pos (i - l.length) with h0 | h0
          · exact h0
          · rw [List.getElem?_eq_none (by simp; omega)] at hi; cases hi
        rw [e2] at hi
        injection hi with hi
        exact ⟨by omega, hi.symm⟩
    rcases key i a hi with ⟨_, hi, h1, h2⟩ | ⟨rfl, rfl⟩ <;> rcases key j c hj with ⟨_, hj, h3, h4⟩ | ⟨rfl, rfl⟩
    · exact b.apart i j a c hij hi hj
    · exact ⟨by show a.g ≠ h; omega, by show a.h ≠ h; omega⟩
    · exact ⟨by show g ≠ c.h; omega, by show h ≠ c.h; omega⟩
    · exact absurd rfl hij
theorem set_get (l : List VV) (i j : Nat) (v u : VV) (hi : l[i]? = some v) : (l.set i u)[j]? = if i = j then some u else l[j]? := by
  rw [List.getElem?_set]
  by_cases e : i = j
  · subst e; rw [if_pos rfl, if_pos rfl, if_pos (List.getElem?_eq_some_iff.1 hi).1]
  · rw [if_neg e, if_neg e]
theorem Bag.write (b : Bag w0 w l) (hi : l[i]? = some ⟨g, h, n, X⟩) (hg : w.grownBy w' (some h)) (v : VecAt w' g h n Y) : Bag w0 w' (l.set i ⟨g, h, n, Y⟩) := by
  obtain ⟨_, hgl, hhl⟩ := b.at_ i g h n X hi
  refine ⟨b.below.grown hg b.below.size (by intro k hk; injection hk with hk; omega), b.tab, fun j g1 h1 n1 X1 hj => ?_, fun j k a c hjk hj hk => ?_⟩
  · rw [set_get l i j _ _ hi] at hj
    by_cases e : i = j
    · rw [if_pos e] at hj
      injection hj with hj
      injection hj with a1 a2 a3 a4
      subst a1 a2 a3 a4
      exact ⟨v, hgl, hhl⟩
    · rw [if_neg e] at hj
      have a1 := b.at_ j g1 h1 n1 X1 hj
      have a2 := b.apart j i _ _ (fun e' => e e'.symm) hj hi
      exact ⟨a1.1.grown hg (fun e => a2.1 e.symm) (fun e => a2.2 e.symm), a1.2⟩
  · rw [set_get l i j _ _ hi] at hj
    rw [set_get l i k _ _ hi] at hk
    have old : ∀ j a, (if i = j then some (⟨g, h, n, Y⟩ : VV) else l[j]?) = some a → ∃ a', l[j]? = some a' ∧ a'.g = a.g ∧ a'.h = a.h := by
      intro j a hj
      by_cases e : i = j
      · subst e
        rw [if_pos rfl] at hj
        injection hj with hj
        subst hj
        exact ⟨_, hi, rfl, rfl⟩
      · rw [if_neg e] at hj
        exact ⟨a, hj, rfl, rfl⟩
    obtain ⟨a', ha, e1, e2⟩ := old j a hj
    obtain ⟨c', hc, e3, e4⟩ := old k c hk
    have := b.apart j k a' c' hjk ha hc
    rw [← e1, ← e2, ← e4]
    exact this
theorem drew_below (w : World) (q : Nat) : Below w.heap.size w (w.drewN q) := ⟨rfl, rfl, rfl, Nat.le_refl _, fun _ _ => rfl⟩
/-- a call that told a boolean and drew -/
theorem bag_QB {f : FuncId} {args : Array Value} {B : Bool} (b : Bag w0 w l) (hc : Calls Tryz.prog f args w (QB B w)) : Calls Tryz.prog f args w fun e w' => e = .returned (.bool B) ∧ Hid (Bag w0 w' l) :=
  hc.mono fun e w' ⟨he, q, hq⟩ => ⟨he, by subst hq; exact b.read (drew_below w q)⟩
theorem bag_quiet {f : FuncId} {args : Array Value} {v : Value} (b : Bag w0 w l) (hc : Calls Tryz.prog f args w fun e w' => e = .returned v ∧ w = w') : Calls Tryz.prog f args w fun e w' => e = .returned v ∧ Hid (Bag w0 w' l) :=
  hc.mono fun e w' ⟨he, hq⟩ => ⟨he, by subst hq; exact b⟩
def OfBag (w0 : World) (l : List VV) (n X : Nat) (e : Ending) (w' : World) : Prop := ∃ g h, e = .returned (.pointer (some ⟨g, 0, none⟩)) ∧ Hid (Bag w0 w' (l ++ [⟨g, h, n, X⟩]))
theorem bag_Of {f : FuncId} {args : Array Value} (b : Bag w0 w l) (hc : Calls Tryz.prog f args w (OfOk n X w)) : Calls Tryz.prog f args w (OfBag w0 l n X) :=
  hc.mono fun e w' ⟨g, h, he, h1, h2, hv, hb⟩ => ⟨g, h, he, b.add hb.out h1 h2 hv.out⟩
theorem bag_new (b : Bag w0 w l) (hn : n ≤ 256) : Calls Tryz.prog 109 #[.int .i64 (n : Int)] w (OfBag w0 l n 0) :=
  (new_ok n w hn).mono fun e w' ⟨g, h, he, h1, h2, hv, hb⟩ => ⟨g, h, he, b.add hb.out h1 h2 hv.out⟩
theorem bag_of {A : Option Addr} {m c : Nat} {zs : List Int} (b : Bag w0 w l) (hr : Row w0 w0.heap.size A m (nv zs)) (hm : m ≤ 4611686018427387904) (hn : n ≤ 256) : Calls Tryz.prog 76 #[.int .i64 (n : Int), .slice A m c] w (OfBag w0 l n (ofL n zs)) :=
  bag_Of b (of_any n A m c w0.heap.size zs w (hr.below b.below) b.below.size hm hn)
theorem bag_ofw {A : Option Addr} {m c : Nat} {zs : List Int} (b : Bag w0 w l) (hr : Row w w.heap.size A m (nv zs)) (hm : m ≤ 4611686018427387904) (hn : n ≤ 256) : Calls Tryz.prog 76 #[.int .i64 (n : Int), .slice A m c] w (OfBag w0 l n (ofL n zs)) :=
  bag_Of b (of_any n A m c w.heap.size zs w hr (Nat.le_refl _) hm hn)
theorem bag_copy (i : Nat) (b : Bag w0 w l) (hi : l[i]? = some ⟨g, h, n, X⟩) : Calls Tryz.prog 141 #[.pointer (some ⟨g, 0, none⟩)] w (OfBag w0 l n X) :=
  bag_Of b (copy_any g h n X w (b.at_ i g h n X hi).1)
theorem bag_len (i : Nat) (b : Bag w0 w l) (hi : l[i]? = some ⟨g, h, n, X⟩) : Calls Tryz.prog 95 #[.pointer (some ⟨g, 0, none⟩)] w fun e w' => e = .returned (.int .i64 (n : Int)) ∧ Hid (Bag w0 w' l) :=
  bag_quiet b (len_any g h n X w (b.at_ i g h n X hi).1)
theorem bag_has (i : Nat) (b : Bag w0 w l) (hi : l[i]? = some ⟨g, h, n, X⟩) (hj : j < n) : Calls Tryz.prog 98 #[.pointer (some ⟨g, 0, none⟩), .int .i64 (j : Int)] w fun e w' => e = .returned (.bool (X.testBit j)) ∧ Hid (Bag w0 w' l) :=
  bag_quiet b (has_in g h n X j w (b.at_ i g h n X hi).1 hj)
theorem bag_has_out (i : Nat) (b : Bag w0 w l) (hi : l[i]? = some ⟨g, h, n, X⟩) {z : Int} (hz : z < 0 ∨ (n : Int) ≤ z) : Calls Tryz.prog 98 #[.pointer (some ⟨g, 0, none⟩), .int .i64 z] w fun e w' => e = .returned (.bool false) ∧ Hid (Bag w0 w' l) :=
  bag_quiet b (has_no _ z w (within_out g h n X z w (b.at_ i g h n X hi).1 hz))
theorem bag_set (i : Nat) (b : Bag w0 w l) (hi : l[i]? = some ⟨g, h, n, X⟩) (hj : j < n) (on : Bool) : Calls Tryz.prog 110 #[.pointer (some ⟨g, 0, none⟩), .int .i64 (j : Int), .bool on] w fun e w' => e = .returned (.bool true) ∧ Hid (Bag w0 w' (l.set i ⟨g, h, n, put X j on⟩)) :=
  (set_in g h n X j on w (b.at_ i g h n X hi).1 hj).mono fun e w' ⟨he, hv, hg⟩ => ⟨he, b.write hi hg.out hv.out⟩
theorem bag_set_out (i : Nat) (b : Bag w0 w l) (hi : l[i]? = some ⟨g, h, n, X⟩) (z : Int) (on : Bool) (hz : z < 0 ∨ (n : Int) ≤ z) : Calls Tryz.prog 110 #[.pointer (some ⟨g, 0, none⟩), .int .i64 z, .bool on] w fun e w' => e = .returned (.bool false) ∧ Hid (Bag w0 w' l) :=
  bag_quiet b (set_no _ z on w (within_out g h n X z w (b.at_ i g h n X hi).1 hz))
theorem bag_xor (i j : Nat) (b : Bag w0 w l) (hij : i ≠ j) (hi : l[i]? = some ⟨g, h, n, X⟩) (hj : l[j]? = some ⟨g', h', n, Y⟩) : Calls Tryz.prog 129 #[.pointer (some ⟨g, 0, none⟩), .pointer (some ⟨g', 0, none⟩)] w fun e w' => e = .returned (.bool true) ∧ Hid (Bag w0 w' (l.set i ⟨g, h, n, X ^^^ Y⟩)) :=
  (xor_any g h n X g' h' Y w (b.at_ i g h n X hi).1 (b.at_ j g' h' n Y hj).1 (b.apart i j _ _ hij hi hj).2 (fun e => (b.apart j i _ _ (fun e => hij e.symm) hj hi).1 e.symm)).mono fun e w' ⟨he, hv, hg⟩ => ⟨he, b.write hi hg.out hv.out⟩
theorem bag_xor_ne (i j : Nat) (b : Bag w0 w l) (hi : l[i]? = some ⟨g, h, n, X⟩) (hj : l[j]? = some ⟨g', h', n', Y⟩) (hn : n ≠ n') : Calls Tryz.prog 129 #[.pointer (some ⟨g, 0, none⟩), .pointer (some ⟨g', 0, none⟩)] w fun e w' => e = .returned (.bool false) ∧ Hid (Bag w0 w' l) :=
  bag_QB b (xor_ne g h n X g' h' n' Y w (b.at_ i g h n X hi).1 (b.at_ j g' h' n' Y hj).1 hn)
theorem bag_first (i : Nat) (b : Bag w0 w l) (hi : l[i]? = some ⟨g, h, n, X⟩) : Calls Tryz.prog 97 #[.pointer (some ⟨g, 0, none⟩)] w fun e w' => e = .returned (.int .i64 (firstI (Ls X))) ∧ Hid (Bag w0 w' l) :=
  bag_quiet b (first_any g h n X w (b.at_ i g h n X hi).1 b.dtab)
def ListBag (w0 : World) (l : List VV) (X : Nat) (e : Ending) (w' : World) : Prop := ∃ A c, e = .returned (.slice A (Ls X).length c) ∧ Hid (Row w' w'.heap.size A (Ls X).length (nv ((Ls X).map fun i : Nat => (i : Int)))) ∧ Hid (Bag w0 w' l)
theorem bag_list (i : Nat) (b : Bag w0 w l) (hi : l[i]? = some ⟨g, h, n, X⟩) : Calls Tryz.prog 43 #[.pointer (some ⟨g, 0, none⟩)] w (ListBag w0 l X) :=
  (list_any g h n X w (b.at_ i g h n X hi).1 b.dtab).mono fun e w' ⟨A, c, he, ho, hb⟩ => ⟨A, c, he, Row.of_own ho.out, b.read hb.out⟩
def BytesBag (w0 : World) (l : List VV) (bs : List UInt8) (e : Ending) (w' : World) : Prop := ∃ A n c, e = .returned (.slice A n c) ∧ Hid (n = bs.length) ∧ Hid (Row w' w'.heap.size A n (bv bs)) ∧ Hid (Bag w0 w' l)
def FromBag (w0 : World) (l : List VV) (n X : Nat) (e : Ending) (w' : World) : Prop := ∃ g h, e = .returned (.tuple #[.pointer (some ⟨g, 0, none⟩), .bool true]) ∧ Hid (Bag w0 w' (l ++ [⟨g, h, n, X⟩]))
/-- what is written is read as it was -/
theorem fits_bl {X n : Nat} (hX : X < 2 ^ n) : fits n (bl X n) := by
  refine ⟨bl_length X n, fun h => ?_⟩
  have hb : bw n - 1 < bw n := by unfold bw; omega
  have e : (bl X n).getD (bw n - 1) 0 = byteU X (bw n - 1) := by
    rw [List.getD_eq_getElem?_getD]; unfold bl; rw [fill_get _ _ _ _ hb, if_pos hb]; rfl
  rw [e, byteU_toNat]
  apply Nat.lt_pow_two_of_testBit
  intro i hi
  rw [byteN_bit]
  by_cases h8 : i < 8
  · rw [Nat.testBit_lt_two_pow (Nat.lt_of_lt_of_le hX (Nat.pow_le_pow_right (by decide) (by unfold bw; omega)))]; simp
  · simp [h8]
theorem frN_bl {X n : Nat} (hX : X < 2 ^ n) : frN (bl X n) (bw n) = X := by
  apply Nat.eq_of_testBit_eq; intro i
  rw [frN_bit]
  by_cases hi : i / 8 < bw n
  · have e : (bl X n).getD (i / 8) 0 = byteU X (i / 8) := by
      rw [List.getD_eq_getElem?_getD]; unfold bl; rw [fill_get _ _ _ _ hi, if_pos hi]; rfl
    rw [e, byteU_toNat, byteN_bit]
    have h8 : i % 8 < 8 := by omega
    simp [hi, h8, show 8 * (i / 8) + i % 8 = i by omega]
  · rw [Nat.testBit_lt_two_pow (Nat.lt_of_lt_of_le hX (Nat.pow_le_pow_right (by decide) (by unfold bw at hi; omega)))]
    simp [hi]
end
theorem ofL_lt {n : Nat} (l : List Int) : ofL n l < 2 ^ n := by
  have key : ∀ (l : List Int) (X : Nat), X < 2 ^ n → l.foldl (setOne n) X < 2 ^ n := by
    intro l
    induction l with
    | nil => exact fun X h => h
    | cons z t ih =>
      intro X h
      refine ih _ ?_
      unfold setOne; split
      · exact set_lt h (by omega)
      · exact h
  exact key l 0 (Nat.two_pow_pos n)
theorem ls_lt (X : Nat) : (Ls X).length ≤ 256 := L_le X 256
end Go.Proofs.YtoblapnnpjgpnaaGreatDoor.Vc
namespace Go.Proofs.YtoblapnnpjgpnaaGreatDoor.Vc
open Go.RowKit
open VecM
/-- numbers that came in -/
def NumsIn (w : World) (A : Option Addr) (n : Nat) (zs : List Int) : Prop :=
  ∀ i, i < n → ∃ b o, A = some ⟨b, o, none⟩ ∧ b < w.heap.size ∧ w.cell? ⟨b, o + i, none⟩ = some (.int .i64 (zs.getD i 0)) ∧ -9223372036854775808 ≤ zs.getD i 0 ∧ zs.getD i 0 ≤ 9223372036854775807
theorem row_of_nums {w : World} {A : Option Addr} {n : Nat} {zs : List Int} (h : NumsIn w A n zs) : Row w w.heap.size A n (nv ((List.range n).map fun i => zs.getD i 0)) := by
  refine ⟨by simp [nv], fun hn => ?_⟩
  obtain ⟨b, o, e, hb, _⟩ := h 0 hn
  refine ⟨b, o, e, hb, fun j u hu => ?_⟩
  have hj : j < n := by have := (List.getElem?_eq_some_iff.1 hu).1; simpa [nv] using this
  obtain ⟨b2, o2, e2, _, hc, _⟩ := h j hj
  rw [e] at e2
  injection e2 with e2
  injection e2 with e3 e4
  subst e3 e4
  rw [hc, ← hu]
  simp [nv, hj]
theorem xor_back (X Y : Nat) : X ^^^ Y ^^^ Y = X := by rw [Nat.xor_assoc, Nat.xor_self, Nat.xor_zero]
theorem xor_zero_iff (X Y : Nat) : X ^^^ Y = 0 ↔ X = Y := by
  constructor
  · intro h
    have := xor_back X Y
    rw [h, Nat.zero_xor] at this
    exact this.symm
  · rintro rfl; exact Nat.xor_self X
theorem ls_zero {X n : Nat} (hX : X < 2 ^ n) (hn : n ≤ 256) : (Ls X).length = 0 ↔ X = 0 := by
  constructor
  · intro h
    exact L_nil (n := 256) (Nat.lt_of_lt_of_le hX (Nat.pow_le_pow_right (by decide) hn)) (List.eq_nil_of_length_eq_zero h)
  · rintro rfl; unfold Ls; rw [L_zero]; rfl
theorem L_snoc (X n : Nat) : L X (n + 1) = L X n ++ (if X.testBit n then [n] else []) := by
  unfold L
  rw [List.range_succ, List.filter_append]
  congr 1
  cases h : X.testBit n <;> simp [h]
theorem set_bit (X i j : Nat) : (X ||| 2 ^ i).testBit j = (X.testBit j || decide (i = j)) := by rw [Nat.testBit_or, Nat.testBit_two_pow]
theorem L_set (X i : Nat) (h : X.testBit i = false) : ∀ n, (L (X ||| 2 ^ i) n).length = (L X n).length + if i < n then 1 else 0
  | 0 => rfl
  | n + 1 => by
    rw [L_snoc, L_snoc, List.length_append, List.length_append, L_set X i h n, set_bit]
    by_cases e : i = n
    · subst e
      simp [h]
    · by_cases h1 : i < n
      · have h2 : i < n + 1 := by omega
        simp only [e, h1, h2, decide_false, Bool.or_false, if_true]; omega
      · have h2 : ¬ i < n + 1 := by omega
        simp only [e, h1, h2, decide_false, Bool.or_false, if_false]; omega
theorem set_clr (X i : Nat) (h : X.testBit i = true) : clr X i ||| 2 ^ i = X := by
  apply Nat.eq_of_testBit_eq; intro j
  rw [set_bit, clr_bit]
  by_cases e : i = j
  · subst e; simp [h]
  · have e2 : j ≠ i := fun e' => e e'.symm
    simp [e, e2]
theorem clr_set (X i : Nat) (h : X.testBit i = false) : clr (X ||| 2 ^ i) i = X := by
  apply Nat.eq_of_testBit_eq; intro j
  rw [clr_bit, set_bit]
  by_cases e : i = j
  · subst e; simp [h]
  · have e2 : j ≠ i := fun e' => e e'.symm
    simp [e, e2]
/-- the other way round, and back -/
theorem put_facts (X i : Nat) (b : Bool) (h : X.testBit i = b) (hi : i < 256) : (put X i (!b)).testBit i = (!b) ∧ X ≠ put X i (!b) ∧ put (put X i (!b)) i b = X ∧ (if b then (Ls (put X i (!b))).length + 1 = (Ls X).length else (Ls (put X i (!b))).length = (Ls X).length + 1) := by
  cases b with
  | true =>
    have e : put X i (!true) = clr X i := rfl
    rw [e]
    have h1 : (clr X i).testBit i = false := by rw [clr_bit]; simp
    refine ⟨h1, fun e => ?_, set_clr X i h, ?_⟩
    · rw [← e, h] at h1; cases h1
    · have h2 := L_set (clr X i) i h1 256
      rw [set_clr X i h, if_pos hi] at h2
      exact h2.symm
  | false =>
    have e : put X i (!false) = X ||| 2 ^ i := rfl
    rw [e]
    have h1 : (X ||| 2 ^ i).testBit i = true := by rw [set_bit]; simp
    refine ⟨h1, fun e => ?_, clr_set X i h, ?_⟩
    · rw [← e, h] at h1; cases h1
    · have h2 := L_set X i h 256
      rw [if_pos hi] at h2
      exact h2
theorem foldl_bit (n j : Nat) : ∀ (l : List Int) (X : Nat), (l.foldl (setOne n) X).testBit j = (X.testBit j || (decide (j < n) && decide ((j : Int) ∈ l)))
  | [], X => by simp
  | z :: t, X => by
    rw [List.foldl_cons, foldl_bit n j t]
    unfold setOne
    by_cases hz : 0 ≤ z ∧ z < (n : Int)
    · rw [if_pos hz, Nat.testBit_or, Nat.testBit_two_pow]
      by_cases e : z.toNat = j
      · have h1 : (j : Int) = z := by omega
        have h2 : j < n := by omega
        simp [e, h1, h2]
      · have h1 : ¬ (j : Int) = z := by omega
        simp [e, h1]
    · rw [if_neg hz]
      by_cases h2 : j < n
      · have h1 : ¬ (j : Int) = z := by omega
        simp [h1]
      · simp [h2]
theorem ofL_bit (n j : Nat) (l : List Int) : (ofL n l).testBit j = (decide (j < n) && decide ((j : Int) ∈ l)) := by
  unfold ofL; rw [foldl_bit]; simp
theorem ofL_mem (n : Nat) (l m : List Int) (h : ∀ z, z ∈ l ↔ z ∈ m) : ofL n l = ofL n m := by
  apply Nat.eq_of_testBit_eq; intro j
  rw [ofL_bit, ofL_bit]
  simp [h]
theorem ofL_turn (n k : Nat) (l : List Int) : ofL n (l.drop k ++ l ++ l.take k) = ofL n l := by
  apply ofL_mem
  intro z
  simp only [List.mem_append]
  constructor
  · rintro ((h | h) | h)
    · exact List.mem_of_mem_drop h
    · exact h
    · exact List.mem_of_mem_take h
  · exact fun h => .inl (.inr h)
theorem ofL_Ls {X n : Nat} (hX : X < 2 ^ n) (hn : n ≤ 256) : ofL n ((Ls X).map fun i : Nat => (i : Int)) = X := by
  apply Nat.eq_of_testBit_eq; intro j
  rw [ofL_bit]
  by_cases h : j < n
  · have h1 : ((j : Int) ∈ (Ls X).map fun i : Nat => (i : Int)) ↔ X.testBit j = true := by
      simp only [List.mem_map]
      constructor
      · rintro ⟨i, hi, e⟩
        have : i = j := by omega
        subst this
        exact ((mem_L X 256 i).1 hi).2
      · exact fun h2 => ⟨j, (mem_L X 256 j).2 ⟨by omega, h2⟩, rfl⟩
    cases hb : X.testBit j with
    | true => simp only [h, decide_true, Bool.true_and, decide_eq_true_iff]; exact h1.2 hb
    | false => simp only [h, decide_true, Bool.true_and, decide_eq_false_iff_not]; exact fun h2 => by rw [h1.1 h2] at hb; cases hb
  · rw [Nat.testBit_lt_two_pow (Nat.lt_of_lt_of_le hX (Nat.pow_le_pow_right (by decide) (by omega)))]
    simp [h]
theorem nv_one (l : List Int) : ∀ u ∈ nv l, u.oneCell' = true := by
  intro u hu
  simp only [nv, List.mem_map] at hu
  obtain ⟨x, _, rfl⟩ := hu
  rfl
theorem nv_drop (l : List Int) (k : Nat) : (nv l).drop k = nv (l.drop k) := by simp [nv]
theorem nv_take (l : List Int) (k : Nat) : (nv l).take k = nv (l.take k) := by simp [nv]
end Go.Proofs.YtoblapnnpjgpnaaGreatDoor.Vc
