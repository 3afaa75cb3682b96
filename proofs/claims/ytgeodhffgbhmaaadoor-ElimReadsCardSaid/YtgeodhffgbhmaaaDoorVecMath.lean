/- Rows of bits as numbers: words, bytes, places; plain mathematics. -/
import Derived.Lib.TrailingZeros
namespace Go.Proofs.YtgeodhffgbhmaaaDoor
namespace VecM
def word (X k : Nat) : Nat := X / 2 ^ (64 * k) % 2 ^ 64
theorem word_lt (X k : Nat) : word X k < 2 ^ 64 := Nat.mod_lt _ (Nat.two_pow_pos 64)
theorem word_bit (X k j : Nat) : (word X k).testBit j = (decide (j < 64) && X.testBit (64 * k + j)) := by
  unfold word; rw [Nat.testBit_mod_two_pow, Nat.testBit_div_two_pow, Nat.add_comm]
theorem word_or (X Y k : Nat) : word (X ||| Y) k = word X k ||| word Y k := by
  apply Nat.eq_of_testBit_eq; intro j
  rw [Nat.testBit_or, word_bit, word_bit, word_bit, Nat.testBit_or]
  cases decide (j < 64) <;> simp
theorem word_xor (X Y k : Nat) : word (X ^^^ Y) k = word X k ^^^ word Y k := by
  apply Nat.eq_of_testBit_eq; intro j
  rw [Nat.testBit_xor, word_bit, word_bit, word_bit, Nat.testBit_xor]
  cases decide (j < 64) <;> simp
theorem word_and (X Y k : Nat) : word (X &&& Y) k = word X k &&& word Y k := by
  apply Nat.eq_of_testBit_eq; intro j
  rw [Nat.testBit_and, word_bit, word_bit, word_bit, Nat.testBit_and]
  cases decide (j < 64) <;> simp
theorem word_one (i k : Nat) : word (2 ^ i) k = if k = i / 64 then 2 ^ (i % 64) else 0 := by
  apply Nat.eq_of_testBit_eq; intro j
  rw [word_bit, Nat.testBit_two_pow]
  by_cases h : k = i / 64
  · rw [if_pos h, Nat.testBit_two_pow]
    by_cases hj : j < 64
    · simp only [hj, decide_true, Bool.true_and]
      congr 1
      simp only [eq_iff_iff]
      omega
    · have : ¬ i % 64 = j := by omega
      simp [hj, this]
  · rw [if_neg h]
    by_cases hj : j < 64
    · have : ¬ i = 64 * k + j := by omega
      simp [this]
    · simp [hj]
/-- bit i let go -/
def clr (X i : Nat) : Nat := X ^^^ (X &&& 2 ^ i)
theorem clr_bit (X i j : Nat) : (clr X i).testBit j = (X.testBit j && decide (j ≠ i)) := by
  unfold clr
  rw [Nat.testBit_xor, Nat.testBit_and, Nat.testBit_two_pow]
  by_cases h : j = i
  · subst h; simp
  · have : ¬ i = j := fun e => h e.symm
    simp [h, this]
theorem clr_lt {X n i : Nat} (h : X < 2 ^ n) : clr X i < 2 ^ n :=
  Nat.xor_lt_two_pow h (Nat.lt_of_le_of_lt Nat.and_le_left h)
theorem word_clr (X i k : Nat) : word (clr X i) k = if k = i / 64 then clr (word X k) (i % 64) else word X k := by
  unfold clr
  rw [word_xor, word_and, word_one]
  by_cases h : k = i / 64
  · rw [if_pos h, if_pos h]
  · rw [if_neg h, if_neg h]; simp
theorem word_set (X i k : Nat) : word (X ||| 2 ^ i) k = if k = i / 64 then word X k ||| 2 ^ (i % 64) else word X k := by
  rw [word_or, word_one]
  by_cases h : k = i / 64
  · rw [if_pos h, if_pos h]
  · rw [if_neg h, if_neg h]; simp
theorem set_lt {X n i : Nat} (h : X < 2 ^ n) (hi : i < n) : X ||| 2 ^ i < 2 ^ n :=
  Nat.or_lt_two_pow h (Nat.pow_lt_pow_right (by decide) hi)
/-- '>> (i % 64) & 1' -/
theorem has_word (X i : Nat) : word X (i / 64) / 2 ^ (i % 64) % 2 = if X.testBit i then 1 else 0 := by
  have h := word_bit X (i / 64) (i % 64)
  rw [show 64 * (i / 64) + i % 64 = i by omega] at h
  have h64 : i % 64 < 64 := by omega
  simp only [h64, decide_true, Bool.true_and] at h
  rw [← h, Nat.testBit_eq_decide_div_mod_eq]
  by_cases e : word X (i / 64) / 2 ^ (i % 64) % 2 = 1
  · simp [e]
  · simp [e]; omega
/-- words beyond the row are nought -/
theorem word_beyond {X n k : Nat} (h : X < 2 ^ n) (hk : n ≤ 64 * k) : word X k = 0 := by
  unfold word
  rw [Nat.div_eq_of_lt (Nat.lt_of_lt_of_le h (Nat.pow_le_pow_right (by decide) hk))]
/-- rows of alike words are alike -/
theorem ext_words {X Y n m : Nat} (hX : X < 2 ^ n) (hY : Y < 2 ^ n) (hm : n ≤ 64 * m) (h : ∀ k, k < m → word X k = word Y k) : X = Y := by
  apply Nat.eq_of_testBit_eq; intro j
  have hw : word X (j / 64) = word Y (j / 64) := by
    by_cases hk : j / 64 < m
    · exact h _ hk
    · rw [word_beyond hX (by omega), word_beyond hY (by omega)]
  have h1 := word_bit X (j / 64) (j % 64)
  have h2 := word_bit Y (j / 64) (j % 64)
  rw [show 64 * (j / 64) + j % 64 = j by omega] at h1 h2
  have h64 : j % 64 < 64 := by omega
  simp only [h64, decide_true, Bool.true_and] at h1 h2
  rw [← h1, ← h2, hw]
/-- all places that are set, rising -/
def L (X n : Nat) : List Nat := (List.range n).filter X.testBit
theorem mem_L (X n j : Nat) : j ∈ L X n ↔ j < n ∧ X.testBit j = true := by simp [L]
theorem L_more {X n m : Nat} (h : X < 2 ^ n) (hm : n ≤ m) : L X m = L X n := by
  obtain ⟨d, rfl⟩ : ∃ d, m = n + d := ⟨m - n, by omega⟩
  unfold L
  rw [List.range_add, List.filter_append, (List.filter_eq_nil_iff (l := (List.range d).map (n + ·))).2 ?_, List.append_nil]
  intro j hj
  simp only [List.mem_map, List.mem_range] at hj
  obtain ⟨i, _, rfl⟩ := hj
  rw [Nat.testBit_lt_two_pow (Nat.lt_of_lt_of_le h (Nat.pow_le_pow_right (by decide) (by omega)))]
  decide
theorem L_step (X k : Nat) : L X (64 * (k + 1)) = L X (64 * k) ++ (L (word X k) 64).map (64 * k + ·) := by
  unfold L
  rw [show 64 * (k + 1) = 64 * k + 64 by omega, List.range_add, List.filter_append, List.filter_map]
  congr 2
  apply List.filter_congr
  intro j hj
  rw [word_bit]
  have : j < 64 := by simpa using hj
  simp [this]
/-- how many of the first k bits -/
def pop : Nat → Nat → Nat
  | 0, _ => 0
  | k + 1, x => x % 2 + pop k (x / 2)
theorem pop_L : ∀ (k x : Nat), (L x k).length = pop k x
  | 0, x => rfl
  | k + 1, x => by
    show _ = x % 2 + pop k (x / 2)
    rw [← pop_L k (x / 2)]
    unfold L
    rw [List.range_succ_eq_map, List.filter_cons, List.filter_map]
    have e : (x.testBit ∘ Nat.succ) = (x / 2).testBit := by funext j; exact Nat.testBit_succ x j
    rw [e, Nat.testBit_zero]
    by_cases h : x % 2 = 1
    · simp [h]; omega
    · have h0 : x % 2 = 0 := by omega
      simp [h0]
theorem pop_add : ∀ (a b x : Nat), pop (a + b) x = pop a x + pop b (x / 2 ^ a)
  | 0, b, x => by simp [pop]
  | a + 1, b, x => by
    rw [show a + 1 + b = (a + b) + 1 by omega]
    show x % 2 + pop (a + b) (x / 2) = x % 2 + pop a (x / 2) + _
    rw [pop_add a b (x / 2), Nat.div_div_eq_div_mul, ← Nat.pow_succ', Nat.add_assoc]
theorem pop_mod : ∀ (a x : Nat), pop a (x % 2 ^ a) = pop a x
  | 0, x => rfl
  | a + 1, x => by
    show x % 2 ^ (a + 1) % 2 + pop a (x % 2 ^ (a + 1) / 2) = x % 2 + pop a (x / 2)
    have e1 : x % 2 ^ (a + 1) % 2 = x % 2 := Nat.mod_mod_of_dvd x (by rw [Nat.pow_succ]; exact Nat.dvd_mul_left _ _)
    have e2 : x % 2 ^ (a + 1) / 2 = x / 2 % 2 ^ a := by
      rw [Nat.pow_succ, Nat.mul_comm, Nat.mod_mul_right_div_self]
    rw [e1, e2, pop_mod a (x / 2)]
/-- the lowest bit let go -/
theorem low_bits (y : Nat) (h0 : y ≠ 0) (h : y < 2 ^ 64) : ∃ c, Lib.ctz 64 y = c ∧ c < 64 ∧ y.testBit c = true ∧ (∀ j, j < c → y.testBit j = false) ∧ y &&& (y - 1) = clr y c := by
  obtain ⟨m, hm, hk⟩ := Lib.ctzFrom_spec 64 y (by omega) h
  have e : Lib.ctz 64 y = Lib.ctzFrom 64 y := by simp [Lib.ctz, h0]
  refine ⟨Lib.ctzFrom 64 y, e, hk, ?_⟩
  generalize Lib.ctzFrom 64 y = c at *
  have hy : ∀ j, y.testBit j = if j < c then false else (2 * m + 1).testBit (j - c) := by
    intro j
    have := Nat.testBit_two_pow_mul_add (2 * m + 1) (b := 0) (i := c) (Nat.two_pow_pos c) j
    rw [Nat.add_zero, ← hm] at this
    rw [this]; simp
  have hy1 : y - 1 = 2 ^ c * (2 * m) + (2 ^ c - 1) := by
    have hp := Nat.two_pow_pos c
    have : 2 ^ c * (2 * m + 1) = 2 ^ c * (2 * m) + 2 ^ c := by rw [Nat.mul_add, Nat.mul_one]
    omega
  have hp : 2 ^ c - 1 < 2 ^ c := by have := Nat.two_pow_pos c; omega
  refine ⟨?_, ?_, ?_⟩
  · rw [hy, if_neg (by omega), Nat.sub_self, Nat.testBit_zero]; simp
  · intro j hj; rw [hy, if_pos hj]
  · apply Nat.eq_of_testBit_eq; intro j
    rw [Nat.testBit_and, clr_bit, hy1, Nat.testBit_two_pow_mul_add _ hp, hy]
    by_cases hj : j < c
    · simp [hj]
    · rw [if_neg hj, if_neg hj]
      by_cases e2 : j = c
      · subst e2; simp
      · obtain ⟨i, rfl⟩ : ∃ i, j = c + (i + 1) := ⟨j - c - 1, by omega⟩
        rw [show c + (i + 1) - c = i + 1 by omega, Nat.testBit_succ, Nat.testBit_succ]
        have d1 : (2 * m + 1) / 2 = m := by omega
        have d2 : 2 * m / 2 = m := by omega
        rw [d1, d2]
        simp
theorem L_low (y c n : Nat) (hc : c < n) (h1 : y.testBit c = true) (h2 : ∀ j, j < c → y.testBit j = false) : L y n = c :: L (clr y c) n := by
  obtain ⟨d, rfl⟩ : ∃ d, n = c + 1 + d := ⟨n - c - 1, by omega⟩
  unfold L
  rw [List.range_add, List.range_succ, List.filter_append, List.filter_append, List.filter_append, List.filter_append]
  have a1 : (List.range c).filter y.testBit = [] := by
    rw [List.filter_eq_nil_iff]; intro j hj; rw [h2 j (by simpa using hj)]; decide
  have a2 : (List.range c).filter (clr y c).testBit = [] := by
    rw [List.filter_eq_nil_iff]; intro j hj; rw [clr_bit, h2 j (by simpa using hj)]; simp
  have a3 : ([c] : List Nat).filter y.testBit = [c] := by simp [h1]
  have a4 : ([c] : List Nat).filter (clr y c).testBit = [] := by simp [clr_bit]
  have a5 : ((List.range d).map (c + 1 + ·)).filter (clr y c).testBit = ((List.range d).map (c + 1 + ·)).filter y.testBit := by
    apply List.filter_congr
    intro j hj
    simp only [List.mem_map, List.mem_range] at hj
    obtain ⟨i, _, rfl⟩ := hj
    rw [clr_bit]
    have : c + 1 + i ≠ c := by omega
    simp [this]
  rw [a1, a2, a3, a4, a5]; rfl
theorem L_zero (n : Nat) : L 0 n = [] := by unfold L; rw [List.filter_eq_nil_iff]; intro j _; simp
theorem L_nil {X n : Nat} (hX : X < 2 ^ n) (h : L X n = []) : X = 0 := by
  apply Nat.eq_of_testBit_eq; intro j
  rw [Nat.zero_testBit]
  by_cases hj : j < n
  · unfold L at h
    rw [List.filter_eq_nil_iff] at h
    have := h j (by simpa using hj)
    simpa using this
  · exact Nat.testBit_lt_two_pow (Nat.lt_of_lt_of_le hX (Nat.pow_le_pow_right (by decide) (by omega)))
/- OnesCount64 -/
def s1 (x : Nat) : Nat := (x / 2 &&& 6148914691236517205) + (x &&& 6148914691236517205)
def s2 (x : Nat) : Nat := (x / 4 &&& 3689348814741910323) + (x &&& 3689348814741910323)
def s3 (x : Nat) : Nat := (x / 16 + x) &&& 1085102592571150095
def m8 (b : Nat) : Nat → Nat
  | 0 => 0
  | k + 1 => b + 256 * m8 b k
def fold8 (f : Nat → Nat) : Nat → Nat → Nat
  | 0, _ => 0
  | k + 1, x => f (x % 256) + 256 * fold8 f k (x / 256)
theorem and_byte (x b M : Nat) (hb : b < 256) : x &&& (b + 256 * M) = (x % 256 &&& b) + 256 * (x / 256 &&& M) := by
  have h1 : (x &&& (b + 256 * M)) % 256 = x % 256 &&& b := by
    have := Nat.and_mod_two_pow (n := 8) (a := x) (b := b + 256 * M)
    rw [show (2 : Nat) ^ 8 = 256 from rfl] at this
    rw [this]
    congr 1; omega
  have h2 : (x &&& (b + 256 * M)) / 256 = x / 256 &&& M := by
    have := Nat.and_div_two_pow (n := 8) (a := x) (b := b + 256 * M)
    rw [show (2 : Nat) ^ 8 = 256 from rfl] at this
    rw [this]
    congr 1; omega
  omega
theorem and_m8 (b : Nat) (hb : b < 256) : ∀ (k x : Nat), x &&& m8 b k = fold8 (· &&& b) k x
  | 0, x => by simp [m8, fold8]
  | k + 1, x => by
    show x &&& (b + 256 * m8 b k) = _
    rw [and_byte _ _ _ hb, and_m8 b hb k]; rfl
theorem fold8_congr (f g : Nat → Nat) (h : ∀ c, c < 256 → f c = g c) : ∀ k x, fold8 f k x = fold8 g k x
  | 0, _ => rfl
  | k + 1, x => by show _ + 256 * _ = _ + 256 * _; rw [h _ (by omega), fold8_congr f g h k]
theorem fold8_add (f g : Nat → Nat) : ∀ k x, fold8 f k x + fold8 g k x = fold8 (fun c => f c + g c) k x
  | 0, _ => rfl
  | k + 1, x => by
    show f _ + 256 * fold8 f k _ + (g _ + 256 * fold8 g k _) = f _ + g _ + 256 * _
    rw [← fold8_add f g k]; omega
/-- a sum of shifted and masked bytes, byte by byte -/
theorem fold8_shift (s b : Nat) (hs : 0 < s) (hd : s ∣ 256) (h : ∀ c, c < 256 → ∀ t, t < s → (c / s + 256 / s * t) &&& b = c / s &&& b) : ∀ k x, fold8 (· &&& b) k (x / s) = fold8 (fun c => c / s &&& b) k x
  | 0, _ => rfl
  | k + 1, x => by
    obtain ⟨r, hr⟩ := hd
    have hr0 : 0 < r := by
      rcases Nat.eq_zero_or_pos r with h0 | h0
      · subst h0; omega
      · exact h0
    have hq : 256 / s = r := by rw [hr]; exact Nat.mul_div_cancel_left _ hs
    have e1 : x / s / 256 = x / 256 / s := by rw [Nat.div_div_eq_div_mul, Nat.div_div_eq_div_mul, Nat.mul_comm]
    have e2 : x / s % 256 = x % 256 / s + r * (x / 256 % s) := by
      have h1 := Nat.div_add_mod x 256
      have h2 := Nat.div_add_mod (x / 256) s
      have h3 : x / s = x % 256 / s + r * (x / 256) := by
        conv => lhs; rw [← h1]
        rw [hr, Nat.mul_assoc, Nat.add_comm, Nat.add_mul_div_left _ _ hs]
      have h4 : x % 256 / s < r := by
        apply Nat.div_lt_of_lt_mul; rw [← hr]; exact Nat.mod_lt _ (by decide)
      have h5 : r * (x / 256) = r * (x / 256 % s) + 256 * (x / 256 / s) := by
        conv => lhs; rw [← h2]
        rw [hr, Nat.mul_add, ← Nat.mul_assoc, Nat.mul_comm r s, Nat.add_comm]
      have h6 : r * (x / 256 % s) + r ≤ 256 := by
        have : x / 256 % s < s := Nat.mod_lt _ hs
        have : r * (x / 256 % s + 1) ≤ r * s := Nat.mul_le_mul_left _ this
        rw [Nat.mul_add, Nat.mul_one, Nat.mul_comm r s, ← hr] at this
        exact this
      omega
    show (x / s % 256 &&& b) + 256 * fold8 (· &&& b) k (x / s / 256) = (x % 256 / s &&& b) + 256 * _
    rw [e1, fold8_shift s b hs ⟨r, hr⟩ h k, e2]
    have := h (x % 256) (Nat.mod_lt _ (by decide)) (x / 256 % s) (Nat.mod_lt _ hs)
    rw [hq] at this
    rw [this]
theorem fold8_comp (f g : Nat → Nat) (hg : ∀ c, c < 256 → g c < 256) : ∀ k x, fold8 f k (fold8 g k x) = fold8 (fun c => f (g c)) k x
  | 0, _ => rfl
  | k + 1, x => by
    have h := hg (x % 256) (Nat.mod_lt _ (by decide))
    show f ((g (x % 256) + 256 * fold8 g k (x / 256)) % 256) + 256 * fold8 f k ((g (x % 256) + 256 * fold8 g k (x / 256)) / 256) = f (g (x % 256)) + 256 * fold8 (fun c => f (g c)) k (x / 256)
    rw [← fold8_comp f g hg k (x / 256)]
    rw [show (g (x % 256) + 256 * fold8 g k (x / 256)) % 256 = g (x % 256) by omega, show (g (x % 256) + 256 * fold8 g k (x / 256)) / 256 = fold8 g k (x / 256) by omega]
theorem fold8_nib (G : Nat → Nat) (hG : ∀ c, c < 256 → G c ≤ 68 ∧ G c % 16 ≤ 4) : ∀ k x, (fold8 G k x / 16 + fold8 G k x) &&& m8 15 k = fold8 (fun c => (G c / 16 + G c) % 16) k x
  | 0, _ => by simp [m8, fold8]
  | k + 1, x => by
    obtain ⟨h1, h2⟩ := hG (x % 256) (Nat.mod_lt _ (by decide))
    have h3 : fold8 G k (x / 256) % 16 ≤ 4 := by
      cases k with
      | zero => simp [fold8]
      | succ k =>
        show (G (x / 256 % 256) + 256 * _) % 16 ≤ 4
        have := (hG (x / 256 % 256) (Nat.mod_lt _ (by decide))).2
        omega
    show ((G (x % 256) + 256 * fold8 G k (x / 256)) / 16 + (G (x % 256) + 256 * fold8 G k (x / 256))) &&& (15 + 256 * m8 15 k) = (G (x % 256) / 16 + G (x % 256)) % 16 + 256 * fold8 (fun c => (G c / 16 + G c) % 16) k (x / 256)
    rw [and_byte _ _ _ (by decide), ← fold8_nib G hG k (x / 256)]
    generalize G (x % 256) = a at *
    generalize fold8 G k (x / 256) = R at *
    rw [show ((a + 256 * R) / 16 + (a + 256 * R)) / 256 = R / 16 + R by omega]
    have e : ∀ y : Nat, y &&& 15 = y % 16 := fun y => Nat.and_two_pow_sub_one_eq_mod y 4
    rw [e]
    congr 1
    omega
def g1 (c : Nat) : Nat := (c / 2 &&& 85) + (c &&& 85)
def g2 (c : Nat) : Nat := (c / 4 &&& 51) + (c &&& 51)
theorem s1_fold (x : Nat) : s1 x = fold8 g1 8 x := by
  unfold s1
  rw [show (6148914691236517205 : Nat) = m8 85 8 from rfl, and_m8 85 (by decide), and_m8 85 (by decide), fold8_shift 2 85 (by decide) (by decide) (by decide +kernel), fold8_add]; rfl
theorem s2_fold (x : Nat) : s2 x = fold8 g2 8 x := by
  unfold s2
  rw [show (3689348814741910323 : Nat) = m8 51 8 from rfl, and_m8 51 (by decide), and_m8 51 (by decide), fold8_shift 4 51 (by decide) (by decide) (by decide +kernel), fold8_add]; rfl
theorem s3_fold (x : Nat) : s3 (s2 (s1 x)) = fold8 (pop 8) 8 x := by
  rw [s1_fold, s2_fold, fold8_comp g2 g1 (by decide +kernel)]
  unfold s3
  rw [show (1085102592571150095 : Nat) = m8 15 8 from rfl, fold8_nib _ (by decide +kernel)]
  exact fold8_congr _ _ (by decide +kernel) 8 x
theorem pop8_le (c : Nat) : pop 8 c ≤ 8 := by
  have : ∀ k c, pop k c ≤ k := by
    intro k
    induction k with
    | zero => intro c; exact Nat.le_refl 0
    | succ k ih => intro c; show c % 2 + pop k (c / 2) ≤ _; have := ih (c / 2); omega
  exact this 8 c
theorem dig (a R : Nat) (h : a < 256) : (a + 256 * R) / 256 = R := by omega
theorem dig2 (a b R : Nat) (h : a < 256) (hb : b < 256) : (a + 256 * (b + 256 * R)) / 65536 = R := by omega
theorem dig4 (a b c d R : Nat) (h : a < 256) (hb : b < 256) (hc : c < 256) (hd : d < 256) : (a + 256 * (b + 256 * (c + 256 * (d + 256 * R)))) / 4294967296 = R := by omega
theorem ones_sum (p0 p1 p2 p3 p4 p5 p6 p7 : Nat) (a0 : p0 ≤ 8) (a1 : p1 ≤ 8) (a2 : p2 ≤ 8) (a3 : p3 ≤ 8) (a4 : p4 ≤ 8) (a5 : p5 ≤ 8) (a6 : p6 ≤ 8) (a7 : p7 ≤ 8) (T : Nat)
    (hT : T = p0 + 256 * (p1 + 256 * (p2 + 256 * (p3 + 256 * (p4 + 256 * (p5 + 256 * (p6 + 256 * p7))))))) :
    T + T / 256 + (T + T / 256) / 65536 + (T + T / 256 + (T + T / 256) / 65536) / 4294967296 < 18446744073709551616 ∧ (T + T / 256 + (T + T / 256) / 65536 + (T + T / 256 + (T + T / 256) / 65536) / 4294967296) % 128 = p0 + (p1 + (p2 + (p3 + (p4 + (p5 + (p6 + p7)))))) := by
  have t1 : T / 256 = p1 + 256 * (p2 + 256 * (p3 + 256 * (p4 + 256 * (p5 + 256 * (p6 + 256 * p7))))) := by rw [hT]; clear hT; exact dig _ _ (by omega)
  obtain ⟨U, hU⟩ : ∃ U, T + T / 256 = U := ⟨_, rfl⟩
  rw [hU]
  have u0 : U = (p0 + p1) + 256 * ((p1 + p2) + 256 * ((p2 + p3) + 256 * ((p3 + p4) + 256 * ((p4 + p5) + 256 * ((p5 + p6) + 256 * ((p6 + p7) + 256 * p7)))))) := by rw [← hU, t1, hT]; clear hU t1 hT; omega
  have u1 : U / 65536 = (p2 + p3) + 256 * ((p3 + p4) + 256 * ((p4 + p5) + 256 * ((p5 + p6) + 256 * ((p6 + p7) + 256 * p7)))) := by rw [u0]; clear u0 hU t1 hT; exact dig2 _ _ _ (by omega) (by omega)
  obtain ⟨V, hV⟩ : ∃ V, U + U / 65536 = V := ⟨_, rfl⟩
  rw [hV]
  have v0 : V = (p0 + p1 + p2 + p3) + 256 * ((p1 + p2 + p3 + p4) + 256 * ((p2 + p3 + p4 + p5) + 256 * ((p3 + p4 + p5 + p6) + 256 * ((p4 + p5 + p6 + p7) + 256 * ((p5 + p6 + p7) + 256 * ((p6 + p7) + 256 * p7)))))) := by rw [← hV, u1, u0]; clear hV u1 u0 hU t1 hT; omega
  have v1 : V / 4294967296 = (p4 + p5 + p6 + p7) + 256 * ((p5 + p6 + p7) + 256 * ((p6 + p7) + 256 * p7)) := by rw [v0]; clear v0 hV u1 u0 hU t1 hT; exact dig4 _ _ _ _ _ (by omega) (by omega) (by omega) (by omega)
  have w0 : V + V / 4294967296 = (p0 + p1 + p2 + p3 + p4 + p5 + p6 + p7) + 256 * ((p1 + p2 + p3 + p4 + p5 + p6 + p7) + 256 * ((p2 + p3 + p4 + p5 + p6 + p7) + 256 * ((p3 + p4 + p5 + p6 + p7) + 256 * ((p4 + p5 + p6 + p7) + 256 * ((p5 + p6 + p7) + 256 * ((p6 + p7) + 256 * p7)))))) := by rw [v1, v0]; clear v1 v0 hV u1 u0 hU t1 hT; omega
  rw [w0]
  clear v0 v1 u0 u1 t1 hT hU hV w0
  constructor
  · omega
  · generalize (p1 + p2 + p3 + p4 + p5 + p6 + p7) + 256 * ((p2 + p3 + p4 + p5 + p6 + p7) + 256 * ((p3 + p4 + p5 + p6 + p7) + 256 * ((p4 + p5 + p6 + p7) + 256 * ((p5 + p6 + p7) + 256 * ((p6 + p7) + 256 * p7))))) = R
    omega
theorem ones_all (x : Nat) : ∃ T, s3 (s2 (s1 x)) = T ∧ T + T / 256 + (T + T / 256) / 65536 + (T + T / 256 + (T + T / 256) / 65536) / 4294967296 < 18446744073709551616 ∧ (T + T / 256 + (T + T / 256) / 65536 + (T + T / 256 + (T + T / 256) / 65536) / 4294967296) % 128 = pop 64 x := by
  refine ⟨_, s3_fold x, ?_⟩
  have h : ∀ b y, pop (8 + b) y = pop 8 (y % 256) + pop b (y / 256) := fun b y => by rw [pop_add 8 b y, ← pop_mod 8 y]
  have f : ∀ k y, fold8 (pop 8) (k + 1) y = pop 8 (y % 256) + 256 * fold8 (pop 8) k (y / 256) := fun _ _ => rfl
  have e : ∀ y, fold8 (pop 8) 0 y = 0 := fun _ => rfl
  have e0 : ∀ y, pop 0 y = 0 := fun _ => rfl
  have e2 := ones_sum _ _ _ _ _ _ _ _ (pop8_le (x % 256)) (pop8_le (x / 256 % 256)) (pop8_le (x / 256 / 256 % 256)) (pop8_le (x / 256 / 256 / 256 % 256)) (pop8_le (x / 256 / 256 / 256 / 256 % 256)) (pop8_le (x / 256 / 256 / 256 / 256 / 256 % 256)) (pop8_le (x / 256 / 256 / 256 / 256 / 256 / 256 % 256)) (pop8_le (x / 256 / 256 / 256 / 256 / 256 / 256 / 256 % 256)) (fold8 (pop 8) 8 x) (by
    rw [f 7, f 6, f 5, f 4, f 3, f 2, f 1, f 0, e, Nat.mul_zero, Nat.add_zero])
  have e3 : pop 64 x = _ := h 56 x
  rw [e3, show (56 : Nat) = 8 + 48 from rfl, h 48, show (48 : Nat) = 8 + 40 from rfl, h 40, show (40 : Nat) = 8 + 32 from rfl, h 32, show (32 : Nat) = 8 + 24 from rfl, h 24, show (24 : Nat) = 8 + 16 from rfl, h 16, show (16 : Nat) = 8 + 8 from rfl, h 8, show pop 8 (x / 256 / 256 / 256 / 256 / 256 / 256 / 256) = pop 8 (x / 256 / 256 / 256 / 256 / 256 / 256 / 256 % 256) from (pop_mod 8 _).symm]
  exact e2
end VecM
end Go.Proofs.YtgeodhffgbhmaaaDoor
