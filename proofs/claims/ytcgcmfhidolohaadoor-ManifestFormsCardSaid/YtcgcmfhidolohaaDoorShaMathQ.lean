/- SHA-256 as plain mathematics: on numbers below 2^32 and bytes. -/
namespace Go.Proofs.YtcgcmfhidolohaaDoor.Sha

def add (a b : Nat) : Nat := (a + b) % 4294967296
def rotr (x n : Nat) : Nat := (x / 2 ^ n) ||| (x * 2 ^ (32 - n) % 4294967296)
def not32 (x : Nat) : Nat := x ^^^ 4294967295
structure S8 where
  a : Nat
  b : Nat
  c : Nat
  d : Nat
  e : Nat
  f : Nat
  g : Nat
  h : Nat
deriving DecidableEq
def S8.get (s : S8) (i : Nat) : Nat :=
  match i with
  | 0 => s.a | 1 => s.b | 2 => s.c | 3 => s.d | 4 => s.e | 5 => s.f | 6 => s.g | _ => s.h
def S8.lt (s : S8) : Prop := s.a < 4294967296 ∧ s.b < 4294967296 ∧ s.c < 4294967296 ∧ s.d < 4294967296 ∧ s.e < 4294967296 ∧ s.f < 4294967296 ∧ s.g < 4294967296 ∧ s.h < 4294967296
def big1 (x : Nat) : Nat := rotr x 6 ^^^ rotr x 11 ^^^ rotr x 25
def big0 (x : Nat) : Nat := rotr x 2 ^^^ rotr x 13 ^^^ rotr x 22
def small0 (x : Nat) : Nat := rotr x 7 ^^^ rotr x 18 ^^^ x / 8
def small1 (x : Nat) : Nat := rotr x 17 ^^^ rotr x 19 ^^^ x / 1024
def choice (e f g : Nat) : Nat := (e &&& f) ^^^ (not32 e &&& g)
def major (a b c : Nat) : Nat := (a &&& b) ^^^ (a &&& c) ^^^ (b &&& c)
def t1 (s : S8) (x : Nat) : Nat := add (add (add s.h (big1 s.e)) (choice s.e s.f s.g)) x
def t2 (s : S8) : Nat := add (big0 s.a) (major s.a s.b s.c)
def round (s : S8) (x : Nat) : S8 := ⟨add (t1 s x) (t2 s), s.a, s.b, s.c, add s.d (t1 s x), s.e, s.f, s.g⟩
def plus (s t : S8) : S8 := ⟨add s.a t.a, add s.b t.b, add s.c t.c, add s.d t.d, add s.e t.e, add s.f t.f, add s.g t.g, add s.h t.h⟩
def first : S8 := ⟨0x6a09e667, 0xbb67ae85, 0x3c6ef372, 0xa54ff53a, 0x510e527f, 0x9b05688c, 0x1f83d9ab, 0x5be0cd19⟩
def ks : List Nat := [
  0x428a2f98, 0x71374491, 0xb5c0fbcf, 0xe9b5dba5, 0x3956c25b, 0x59f111f1, 0x923f82a4, 0xab1c5ed5,
  0xd807aa98, 0x12835b01, 0x243185be, 0x550c7dc3, 0x72be5d74, 0x80deb1fe, 0x9bdc06a7, 0xc19bf174,
  0xe49b69c1, 0xefbe4786, 0x0fc19dc6, 0x240ca1cc, 0x2de92c6f, 0x4a7484aa, 0x5cb0a9dc, 0x76f988da,
  0x983e5152, 0xa831c66d, 0xb00327c8, 0xbf597fc7, 0xc6e00bf3, 0xd5a79147, 0x06ca6351, 0x14292967,
  0x27b70a85, 0x2e1b2138, 0x4d2c6dfc, 0x53380d13, 0x650a7354, 0x766a0abb, 0x81c2c92e, 0x92722c85,
  0xa2bfe8a1, 0xa81a664b, 0xc24b8b70, 0xc76c51a3, 0xd192e819, 0xd6990624, 0xf40e3585, 0x106aa070,
  0x19a4c116, 0x1e376c08, 0x2748774c, 0x34b0bcb5, 0x391c0cb3, 0x4ed8aa4a, 0x5b9cca4f, 0x682e6ff3,
  0x748f82ee, 0x78a5636f, 0x84c87814, 0x8cc70208, 0x90befffa, 0xa4506ceb, 0xbef9a3f7, 0xc67178f2]
/-- four bytes as a number -/
def num4 (a b c d : UInt8) : Nat := ((a.toNat * 256 + b.toNat) * 256 + c.toNat) * 256 + d.toNat
/-- word j of the first sixteen -/
def word (bl : List UInt8) (j : Nat) : Nat := num4 (bl.getD (4 * j) 0) (bl.getD (4 * j + 1) 0) (bl.getD (4 * j + 2) 0) (bl.getD (4 * j + 3) 0)
def words (bl : List UInt8) : List Nat := (List.range 16).map (word bl)
def next (l : List Nat) : List Nat :=
  l ++ [add (add (add (small1 (l.getD (l.length - 2) 0)) (l.getD (l.length - 7) 0)) (small0 (l.getD (l.length - 15) 0))) (l.getD (l.length - 16) 0)]
def sched : Nat → List Nat → List Nat
  | 0, l => l
  | k + 1, l => next (sched k l)
def wordsOf (bl : List UInt8) : List Nat := sched 48 (words bl)
/-- the rounds from the first on, k of them -/
def rounds (ws : List Nat) (s : S8) : Nat → S8
  | 0 => s
  | k + 1 => round (rounds ws s k) (add (ks.getD k 0) (ws.getD k 0))
def mix (s : S8) (bl : List UInt8) : S8 := plus s (rounds (wordsOf bl) s 64)
/-- a sum that is not at its end -/
structure H where
  st : S8
  bl : List UInt8
  wait : Nat
def H.put (h : H) (x : UInt8) : H :=
  if h.wait + 1 = 64 then ⟨mix h.st (h.bl.set h.wait x), h.bl.set h.wait x, 0⟩ else ⟨h.st, h.bl.set h.wait x, h.wait + 1⟩
def H.Ok (h : H) : Prop := h.st.lt ∧ h.bl.length = 64 ∧ h.wait < 64
def H.take (h : H) (l : List UInt8) : H := l.foldl H.put h
def start : H := ⟨first, List.replicate 64 0, 0⟩
def len8 (n : Nat) : List UInt8 := [UInt8.ofNat (n / 2 ^ 56), UInt8.ofNat (n / 2 ^ 48), UInt8.ofNat (n / 2 ^ 40), UInt8.ofNat (n / 2 ^ 32), UInt8.ofNat (n / 2 ^ 24), UInt8.ofNat (n / 2 ^ 16), UInt8.ofNat (n / 2 ^ 8), UInt8.ofNat n]
/-- how many noughts stand behind the 80 -/
def noughts (wait : Nat) : Nat := (119 - wait) % 64
def H.done (h : H) (total : Nat) : H := ((h.put 0x80).take (List.replicate (noughts h.wait) 0)).take (len8 (total * 8))
def four (x : Nat) : List UInt8 := [UInt8.ofNat (x / 16777216), UInt8.ofNat (x / 65536), UInt8.ofNat (x / 256), UInt8.ofNat x]
def S8.bytes (s : S8) : List UInt8 := four s.a ++ four s.b ++ four s.c ++ four s.d ++ four s.e ++ four s.f ++ four s.g ++ four s.h
/-- the digest -/
def D (l : List UInt8) : List UInt8 := ((start.take l).done l.length).st.bytes

theorem add_lt (a b : Nat) : add a b < 4294967296 := Nat.mod_lt _ (by decide)
theorem xor_lt (a b : Nat) (ha : a < 4294967296) (hb : b < 4294967296) : a ^^^ b < 4294967296 := Nat.xor_lt_two_pow (n := 32) ha hb
theorem or_lt (a b : Nat) (ha : a < 4294967296) (hb : b < 4294967296) : a ||| b < 4294967296 := Nat.or_lt_two_pow (n := 32) ha hb
theorem and_lt (a b : Nat) (ha : a < 4294967296) : a &&& b < 4294967296 := Nat.lt_of_le_of_lt Nat.and_le_left ha
theorem rotr_lt (x n : Nat) (h : x < 4294967296) : rotr x n < 4294967296 :=
  or_lt _ _ (Nat.lt_of_le_of_lt (Nat.div_le_self _ _) h) (Nat.mod_lt _ (by decide))
theorem not_lt (x : Nat) (h : x < 4294967296) : not32 x < 4294967296 := xor_lt _ _ h (by decide)
theorem big1_lt (x : Nat) (h : x < 4294967296) : big1 x < 4294967296 := xor_lt _ _ (xor_lt _ _ (rotr_lt _ _ h) (rotr_lt _ _ h)) (rotr_lt _ _ h)
theorem big0_lt (x : Nat) (h : x < 4294967296) : big0 x < 4294967296 := xor_lt _ _ (xor_lt _ _ (rotr_lt _ _ h) (rotr_lt _ _ h)) (rotr_lt _ _ h)
theorem small0_lt (x : Nat) (h : x < 4294967296) : small0 x < 4294967296 := xor_lt _ _ (xor_lt _ _ (rotr_lt _ _ h) (rotr_lt _ _ h)) (by omega)
theorem small1_lt (x : Nat) (h : x < 4294967296) : small1 x < 4294967296 := xor_lt _ _ (xor_lt _ _ (rotr_lt _ _ h) (rotr_lt _ _ h)) (by omega)
theorem choice_lt (e f g : Nat) (h : e < 4294967296) : choice e f g < 4294967296 := xor_lt _ _ (and_lt _ _ h) (and_lt _ _ (not_lt _ h))
theorem major_lt (a b c : Nat) (ha : a < 4294967296) (hb : b < 4294967296) : major a b c < 4294967296 := xor_lt _ _ (xor_lt _ _ (and_lt _ _ ha) (and_lt _ _ ha)) (and_lt _ _ hb)
theorem round_ok (s : S8) (x : Nat) (h : s.lt) : (round s x).lt :=
  ⟨add_lt _ _, h.1, h.2.1, h.2.2.1, add_lt _ _, h.2.2.2.2.1, h.2.2.2.2.2.1, h.2.2.2.2.2.2.1⟩
theorem plus_ok (s t : S8) : (plus s t).lt := ⟨add_lt _ _, add_lt _ _, add_lt _ _, add_lt _ _, add_lt _ _, add_lt _ _, add_lt _ _, add_lt _ _⟩
theorem rounds_ok (ws : List Nat) (s : S8) (h : s.lt) : ∀ k, (rounds ws s k).lt
  | 0 => h
  | k + 1 => round_ok _ _ (rounds_ok ws s h k)
theorem mix_ok (s : S8) (bl : List UInt8) : (mix s bl).lt := plus_ok _ _
theorem get_lt (s : S8) (h : s.lt) (i : Nat) : s.get i < 4294967296 := by
  obtain ⟨h0, h1, h2, h3, h4, h5, h6, h7⟩ := h
  unfold S8.get
  split <;> assumption
theorem ks_lt : ∀ k, ks.getD k 0 < 4294967296 := by
  intro k
  by_cases h : k < 64
  · have : ∀ k < 64, ks.getD k 0 < 4294967296 := by decide +kernel
    exact this k h
  · rw [List.getD_eq_getElem?_getD, List.getElem?_eq_none (show ks.length ≤ k by show 64 ≤ k; omega)]; decide
theorem num4_lt (a b c d : UInt8) : num4 a b c d < 4294967296 := by
  have := a.toNat_lt; have := b.toNat_lt; have := c.toNat_lt; have := d.toNat_lt
  unfold num4; omega
theorem words_length (bl : List UInt8) : (words bl).length = 16 := by simp [words]
theorem sched_length (k : Nat) (l : List Nat) : (sched k l).length = l.length + k := by
  induction k with
  | zero => rfl
  | succ k ih => simp [sched, next, ih]; omega
theorem next_lt (l : List Nat) (h : ∀ x ∈ l, x < 4294967296) : ∀ x ∈ next l, x < 4294967296 := by
  intro x hx
  unfold next at hx
  rcases List.mem_append.1 hx with hx | hx
  · exact h x hx
  · rw [List.mem_singleton] at hx; subst hx; exact add_lt _ _
theorem sched_lt (k : Nat) (l : List Nat) (h : ∀ x ∈ l, x < 4294967296) : ∀ x ∈ sched k l, x < 4294967296 := by
  induction k with
  | zero => exact h
  | succ k ih => exact next_lt _ ih
theorem words_lt (bl : List UInt8) : ∀ x ∈ words bl, x < 4294967296 := by
  intro x hx
  obtain ⟨j, _, rfl⟩ := List.mem_map.1 hx
  exact num4_lt _ _ _ _
theorem wordsOf_length (bl : List UInt8) : (wordsOf bl).length = 64 := by rw [wordsOf, sched_length, words_length]
theorem wordsOf_lt (bl : List UInt8) : ∀ x ∈ wordsOf bl, x < 4294967296 := sched_lt _ _ (words_lt _)
theorem getD_lt {l : List Nat} (h : ∀ x ∈ l, x < 4294967296) (k : Nat) : l.getD k 0 < 4294967296 := by
  rw [List.getD_eq_getElem?_getD]
  cases e : l[k]? with
  | none => decide
  | some x => exact h x (List.mem_of_getElem? e)
theorem put_ok (h : H) (x : UInt8) (hk : h.Ok) : (h.put x).Ok := by
  obtain ⟨h1, h2, h3⟩ := hk
  unfold H.put
  split
  · exact ⟨mix_ok _ _, by simpa using h2, by show 0 < 64; omega⟩
  · exact ⟨h1, by simpa using h2, by show h.wait + 1 < 64; omega⟩
theorem take_ok (l : List UInt8) : ∀ h : H, h.Ok → (h.take l).Ok := by
  induction l with
  | nil => exact fun h hk => hk
  | cons x l ih => exact fun h hk => ih _ (put_ok h x hk)
theorem take_append (h : H) (l m : List UInt8) : h.take (l ++ m) = (h.take l).take m := by simp [H.take, List.foldl_append]
theorem put_wait (h : H) (x : UInt8) : (h.put x).wait = if h.wait + 1 = 64 then 0 else h.wait + 1 := by
  unfold H.put; split <;> rfl
theorem start_ok : start.Ok := by
  refine ⟨?_, by simp [start], by decide⟩
  unfold S8.lt start; decide
theorem four_length (x : Nat) : (four x).length = 4 := rfl
theorem bytes_length (s : S8) : s.bytes.length = 32 := by simp [S8.bytes, four_length]
theorem D_length (l : List UInt8) : (D l).length = 32 := bytes_length _
end Go.Proofs.YtcgcmfhidolohaaDoor.Sha
