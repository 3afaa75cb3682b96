/- Objects that lie apart in memory; the mathematics of rows that are sums of the same pieces. -/
import Derived.Test.YtdogbdbjagechaaDoorElUnitsM
import Derived.Test.YtdogbdbjagechaaDoorVecMore
namespace Go.Proofs.YtdogbdbjagechaaDoor.El
open Go.RowKit
open VecM Vc
/-- what lies in blocks of which F says so stays -/
theorem fr_below2 {w0 w w' : World} {F : Nat → Prop} (hb : Below w0.heap.size w0 w) (hf : Fr w w' F) (hF : ∀ b, F b → w0.heap.size ≤ b) : Below w0.heap.size w0 w' := hb.trans (hf.below hF hb.size)
/-- an object, in blocks of which a predicate says so -/
abbrev Obj := World → (Nat → Prop) → Prop
def Keeps (Q : Obj) : Prop := ∀ (W W' : World) (F : Nat → Prop), Q W F → (∀ b, F b → b < W.heap.size → W'.heap[b]? = W.heap[b]?) → W.heap.size ≤ W'.heap.size → Q W' F
/-- three objects, apart, made since world w0 -/
def Sep3 (A B C : Obj) (w0 W : World) : Prop :=
  ∃ F G H, A W F ∧ B W G ∧ C W H ∧ (∀ b, F b → G b → False) ∧ (∀ b, F b → H b → False) ∧ (∀ b, G b → H b → False) ∧ (∀ b, F b ∨ G b ∨ H b → w0.heap.size ≤ b ∧ b < W.heap.size) ∧ Below w0.heap.size w0 W
def noObj : Obj := fun _ _ => True
theorem keeps_no : Keeps noObj := fun _ _ _ _ _ _ => trivial
theorem Sep3.start (w : World) : Sep3 noObj noObj noObj w w := ⟨fun _ => False, fun _ => False, fun _ => False, trivial, trivial, trivial, fun _ h => h.elim, fun _ h => h.elim, fun _ h => h.elim, fun _ h => by rcases h with h | h | h <;> exact h.elim, Below.refl _ _⟩
theorem Sep3.rot {A B C : Obj} {w0 W : World} (h : Sep3 A B C w0 W) : Sep3 B C A w0 W := by
  obtain ⟨F, G, H, a, b, c, h1, h2, h3, h4, h5⟩ := h
  exact ⟨G, H, F, b, c, a, h3, fun q x y => h1 q y x, fun q x y => h2 q y x, fun q hq => h4 q (by rcases hq with h | h | h; exact .inr (.inl h); exact .inr (.inr h); exact .inl h), h5⟩
theorem Sep3.swap {A B C : Obj} {w0 W : World} (h : Sep3 A B C w0 W) : Sep3 B A C w0 W := by
  obtain ⟨F, G, H, a, b, c, h1, h2, h3, h4, h5⟩ := h
  exact ⟨G, F, H, b, a, c, fun q x y => h1 q y x, h3, h2, fun q hq => h4 q (by rcases hq with h | h | h; exact .inr (.inl h); exact .inl h; exact .inr (.inr h)), h5⟩
theorem Sep3.b {A B C : Obj} {w0 W : World} (h : Sep3 A B C w0 W) : Below w0.heap.size w0 W := by
  obtain ⟨F, G, H, a, b, c, h1, h2, h3, h4, h5⟩ := h
  exact h5
theorem Sep3.below {A B C : Obj} {w0 W W' : World} (h : Sep3 A B C w0 W) (kA : Keeps A) (kB : Keeps B) (kC : Keeps C) (hb : Below W.heap.size W W') : Sep3 A B C w0 W' := by
  obtain ⟨F, G, H, a, b, c, h1, h2, h3, h4, h5⟩ := h
  exact ⟨F, G, H, kA W W' F a (fun q _ hl => hb.block q hl) hb.size, kB W W' G b (fun q _ hl => hb.block q hl) hb.size, kC W W' H c (fun q _ hl => hb.block q hl) hb.size, h1, h2, h3, fun q hq => ⟨(h4 q hq).1, Nat.lt_of_lt_of_le (h4 q hq).2 hb.size⟩, h5.trans (hb.mono h5.size)⟩
/-- a call on the first one -/
theorem Sep3.first2 {A B C : Obj} {w0 w : World} (h : Sep3 A B C w0 w) (kB : Keeps B) (kC : Keeps C) :
    ∃ F, A w F ∧ (∀ b, F b → w0.heap.size ≤ b) ∧ (∀ b, F b → b < w.heap.size) ∧ ∀ (w' : World) (A' : Obj), A' w' (fun b => F b ∨ (w.heap.size ≤ b ∧ b < w'.heap.size)) → Fr w w' F → Sep3 A' B C w0 w' := by
  obtain ⟨F, G, H, a, b, c, h1, h2, h3, h4, h5⟩ := h
  refine ⟨F, a, fun q hq => (h4 q (.inl hq)).1, fun q hq => (h4 q (.inl hq)).2, fun w' A' ha hf => ⟨_, G, H, ha, kB w w' G b (fun q hq hl => hf.block q hl fun hF => h1 q hF hq) hf.size, kC w w' H c (fun q hq hl => hf.block q hl fun hF => h2 q hF hq) hf.size, ?_, ?_, h3, ?_, ?_⟩⟩
  · rintro q (hq | hq) hg
    · exact h1 q hq hg
    · have := (h4 q (.inr (.inl hg))).2; omega
  · rintro q (hq | hq) hg
    · exact h2 q hq hg
    · have := (h4 q (.inr (.inr hg))).2; omega
  · have hs := hf.size
    have hs5 := h5.size
    rintro q ((hq | hq) | hq | hq)
    · have := h4 q (.inl hq); exact ⟨this.1, by omega⟩
    · exact ⟨by omega, hq.2⟩
    · have := h4 q (.inr (.inl hq)); exact ⟨this.1, by omega⟩
    · have := h4 q (.inr (.inr hq)); exact ⟨this.1, by omega⟩
  · exact h5.trans (hf.below (fun q hq => (h4 q (.inl hq)).1) h5.size)
theorem Sep3.first {A B C : Obj} {w0 w : World} (h : Sep3 A B C w0 w) (kB : Keeps B) (kC : Keeps C) :
    ∃ F, A w F ∧ (∀ b, F b → w0.heap.size ≤ b) ∧ ∀ (w' : World) (A' : Obj), A' w' (fun b => F b ∨ (w.heap.size ≤ b ∧ b < w'.heap.size)) → Fr w w' F → Sep3 A' B C w0 w' := by
  obtain ⟨F, a, b, _, d⟩ := h.first2 kB kC
  exact ⟨F, a, b, d⟩
/-- an object that is made -/
theorem Sep3.create {A B C : Obj} {w0 w w' : World} (h : Sep3 A B C w0 w) (kB : Keeps B) (kC : Keeps C) (hb : Below w.heap.size w w') {A' : Obj} (ha : A' w' (fun b => w.heap.size ≤ b ∧ b < w'.heap.size)) : Sep3 A' B C w0 w' := by
  obtain ⟨F, G, H, a, b, c, h1, h2, h3, h4, h5⟩ := h
  have hs := hb.size
  have hs5 := h5.size
  refine ⟨_, G, H, ha, kB w w' G b (fun q _ hl => hb.block q hl) hs, kC w w' H c (fun q _ hl => hb.block q hl) hs, ?_, ?_, h3, ?_, h5.trans (hb.mono hs5)⟩
  · rintro q hq hg
    have := (h4 q (.inr (.inl hg))).2; omega
  · rintro q hq hg
    have := (h4 q (.inr (.inr hg))).2; omega
  · rintro q (hq | hq | hq)
    · exact ⟨by omega, hq.2⟩
    · have := h4 q (.inr (.inl hq)); exact ⟨this.1, by omega⟩
    · have := h4 q (.inr (.inr hq)); exact ⟨this.1, by omega⟩
def matO (gm n z : Nat) (M : Mx) : Obj := fun W F => IsMat W F gm n z M
theorem keeps_mat (gm n z : Nat) (M : Mx) : Keeps (matO gm n z M) := fun _ _ _ h hk _ => IsMat.keep h hk
theorem xorL_at2 (a b : List UInt8) (j : Nat) (h : j < a.length) : (xorL a b).getD j 0 = a.getD j 0 ^^^ b.getD j 0 := by
  unfold xorL
  rw [xl_getD a b a.length j h, if_pos h]
/-- the sum of the first k pieces that X names -/
def sumD (p : Nat → List UInt8) (X : Nat) : Nat → List UInt8
  | 0 => [0, 0]
  | k + 1 => if X.testBit k then xorL (sumD p X k) (p k) else sumD p X k
theorem sumD_length (p : Nat → List UInt8) (X : Nat) : ∀ k, (sumD p X k).length = 2
  | 0 => rfl
  | k + 1 => by
    unfold sumD
    split
    · rw [xorL_length]; exact sumD_length p X k
    · exact sumD_length p X k
theorem sumD_bits (p : Nat → List UInt8) (X Y j : Nat) (hj : j < 2) : ∀ k, (sumD p (X ^^^ Y) k).getD j 0 = (sumD p X k).getD j 0 ^^^ (sumD p Y k).getD j 0
  | 0 => by
    have : j = 0 ∨ j = 1 := by omega
    rcases this with rfl | rfl <;> simp [sumD]
  | k + 1 => by
    have ih := sumD_bits p X Y j hj k
    unfold sumD
    rw [Nat.testBit_xor]
    cases hx : X.testBit k <;> cases hy : Y.testBit k
    · simpa using ih
    · simp only [Bool.false_xor, if_true, Bool.false_eq_true, if_false]
      rw [xorL_at2 _ _ _ (by rw [sumD_length]; exact hj), xorL_at2 _ _ _ (by rw [sumD_length]; exact hj), ih, UInt8.xor_assoc]
    · simp only [Bool.xor_false, if_true, Bool.false_eq_true, if_false]
      rw [xorL_at2 _ _ _ (by rw [sumD_length]; exact hj), xorL_at2 _ _ _ (by rw [sumD_length]; exact hj), ih, UInt8.xor_assoc, UInt8.xor_comm ((sumD p Y k).getD j 0), ← UInt8.xor_assoc]
    · simp only [Bool.xor_self, if_true, Bool.false_eq_true, if_false]
      rw [xorL_at2 _ _ _ (by rw [sumD_length]; exact hj), xorL_at2 _ _ _ (by rw [sumD_length]; exact hj), ih]
      rw [UInt8.xor_assoc, UInt8.xor_comm ((p k).getD j 0), UInt8.xor_assoc, UInt8.xor_self, UInt8.xor_zero]
theorem ext_2 {a b : List UInt8} {Z : Nat} (ha : a.length = Z) (hb : b.length = Z) (h : ∀ j, j < Z → a.getD j 0 = b.getD j 0) : a = b := by
  apply List.ext_getElem (by rw [ha, hb])
  intro j h1 h2
  have := h j (by omega)
  simpa [List.getD, h1, h2] using this
theorem sumD_add (p : Nat → List UInt8) (k X Y : Nat) : xorL (sumD p X k) (sumD p Y k) = sumD p (X ^^^ Y) k := by
  apply ext_2 (Z := 2) (by rw [xorL_length, sumD_length]) (sumD_length _ _ _)
  intro j hj
  rw [xorL_at2 _ _ _ (by rw [sumD_length]; exact hj), sumD_bits p X Y j hj k]
theorem sumD_below (p : Nat → List UInt8) (X : Nat) : ∀ k, (∀ i, i < k → X.testBit i = false) → sumD p X k = [0, 0]
  | 0, _ => rfl
  | k + 1, h => by
    unfold sumD
    rw [if_neg (by rw [h k (by omega)]; decide)]
    exact sumD_below p X k fun i hi => h i (by omega)
theorem sumD_one {p : Nat → List UInt8} {i k : Nat} (hi : i < k) (hl : (p i).length = 2) : sumD p (2 ^ i) k = p i := by
  induction k with
  | zero => omega
  | succ k ih =>
    unfold sumD
    by_cases e : i = k
    · subst e
      rw [if_pos (by rw [Nat.testBit_two_pow]; simp), sumD_below p _ i (fun q hq => by rw [Nat.testBit_two_pow]; simp; omega)]
      apply ext_2 (Z := 2) (by rw [xorL_length]; rfl) hl
      intro j hj
      rw [xorL_at2 _ _ _ hj]
      have : j = 0 ∨ j = 1 := by omega
      rcases this with rfl | rfl <;> simp [List.getD]
    · rw [if_neg (by rw [Nat.testBit_two_pow]; simp; exact e)]
      exact ih (by omega)
/-- the sum over a list of places -/
def foldD (p : Nat → List UInt8) (l : List Nat) : List UInt8 := l.foldl (fun d i => xorL d (p i)) [0, 0]
theorem foldD_snoc (p : Nat → List UInt8) (l : List Nat) (i : Nat) : foldD p (l ++ [i]) = xorL (foldD p l) (p i) := by simp [foldD]
theorem foldD_length (p : Nat → List UInt8) (l : List Nat) : (foldD p l).length = 2 := by
  unfold foldD
  suffices h : ∀ (l : List Nat) (d : List UInt8), d.length = 2 → (l.foldl (fun d i => xorL d (p i)) d).length = 2 from h l _ rfl
  intro l
  induction l with
  | nil => intro d h; exact h
  | cons a t ih => intro d h; exact ih _ (by rw [xorL_length]; exact h)
theorem foldD_L (p : Nat → List UInt8) (X : Nat) : ∀ k, foldD p (L X k) = sumD p X k
  | 0 => rfl
  | k + 1 => by
    rw [L_snoc]
    unfold sumD
    cases hb : X.testBit k with
    | false => simp only [Bool.false_eq_true, if_false, List.append_nil]; exact foldD_L p X k
    | true => simp only [if_true]; rw [foldD_snoc, foldD_L p X k]
/-- i rows, each with the sum of its pieces -/
def matS (n : Nat) (p : Nat → List UInt8) (x : Nat → Nat) : Nat → Mx
  | 0 => List.replicate n none
  | i + 1 => (addMx n (matS n p x i) (x i) (sumD p (x i) n)).1
theorem matS_got {n : Nat} {p : Nat → List UInt8} {x : Nat → Nat} (hn : n ≤ 256) (hx : ∀ i, x i < 2 ^ n) : ∀ i, Got n 2 (matS n p x i) (fun X => ∃ j, j < i ∧ X = x j)
  | 0 => (Got.start n 2).congr fun X => ⟨fun h => h.elim, fun ⟨j, hj, _⟩ => absurd hj (Nat.not_lt_zero j)⟩
  | i + 1 => by
    refine ((matS_got hn hx i).add hn (hx i) (l := sumD p (x i) n) (sumD_length _ _ _)).congr fun X => ⟨?_, ?_⟩
    · rintro (⟨j, hj, e⟩ | e)
      · exact ⟨j, by omega, e⟩
      · exact ⟨i, by omega, e⟩
    · rintro ⟨j, hj, e⟩
      by_cases h : j < i
      · exact .inl ⟨j, h, e⟩
      · exact .inr (by rw [e, show j = i by omega])
theorem matS_data {n : Nat} {p : Nat → List UInt8} {x : Nat → Nat} (hn : n ≤ 256) (hx : ∀ i, x i < 2 ^ n) : ∀ i, DataOf (fun X => sumD p X n) (matS n p x i)
  | 0 => DataOf.start _ _
  | i + 1 => (matS_data hn hx i).add (fun X Y => sumD_add p n X Y) (matS_got hn hx i).inv hn (hx i) (sumD_length _ _ _)
theorem turnBack {n t j : Nat} (hj : j < n) : ∃ i, i < n ∧ (i + t) % n = j := by
  have hn : 0 < n := by omega
  have ht : t % n < n := Nat.mod_lt _ hn
  have e : t = t % n + n * (t / n) := (Nat.mod_add_div t n).symm
  by_cases h : t % n ≤ j
  · refine ⟨j - t % n, by omega, ?_⟩
    have : j - t % n + t = j + n * (t / n) := by omega
    rw [this, Nat.add_mul_mod_self_left, Nat.mod_eq_of_lt hj]
  · refine ⟨j + n - t % n, by omega, ?_⟩
    have : j + n - t % n + t = j + n + n * (t / n) := by omega
    rw [this, Nat.add_mul_mod_self_left, Nat.add_mod_right, Nat.mod_eq_of_lt hj]
/-- the order does not matter -/
theorem matS_turn {n : Nat} {p : Nat → List UInt8} {x : Nat → Nat} (hn : n ≤ 256) (hx : ∀ i, x i < 2 ^ n) (t m : Nat) : matS n p (fun i => x ((i + t) % m)) m = matS n p x m := by
  refine same_matrix (matS_got hn (fun i => hx _) m).inv (matS_got hn hx m).inv (fun X => ?_) (matS_data hn (fun i => hx _) m) (matS_data hn hx m)
  rw [(matS_got (p := p) hn (fun i => hx ((i + t) % m)) m).ker, (matS_got (p := p) hn hx m).ker]
  refine ⟨fun h => h.mono fun Y hY => .one ?_, fun h => h.mono fun Y hY => .one ?_⟩
  · obtain ⟨j, hj, e⟩ := hY
    exact ⟨(j + t) % m, Nat.mod_lt _ (by omega), e⟩
  · obtain ⟨j, hj, e⟩ := hY
    obtain ⟨i, hi, e2⟩ := turnBack (t := t) hj
    exact ⟨i, hi, by rw [e, ← e2]⟩
/-- what was added says nothing new -/
theorem matS_again {n : Nat} {p : Nat → List UInt8} {x : Nat → Nat} (hn : n ≤ 256) (hx : ∀ i, x i < 2 ^ n) (i : Nat) : decide ((redM (matS n p x (i + 1)) (x i) [] n).1 ≠ 0) = false := by
  have hk : Ker n (matS n p x (i + 1)) (x i) := ((matS_got hn hx (i + 1)).ker _).2 (.one ⟨i, by omega, rfl⟩)
  rw [(ker_red (matS_got hn hx (i + 1)).inv (x i) []).2 hk]
  simp
/-- solved, it is the pieces -/
theorem matS_solved {n m : Nat} {p : Nat → List UInt8} {x : Nat → Nat} (hn : n ≤ 256) (hx : ∀ i, x i < 2 ^ n) (hp : ∀ i, (p i).length = 2) (hf : rankM (matS n p x m) = n) : solM (matS n p x m) = (List.range n).map p := by
  rw [solM_full (matS_got hn hx m).inv hf (matS_data hn hx m)]
  apply List.map_congr_left
  intro i hi
  exact sumD_one (List.mem_range.1 hi) (hp i)
end Go.Proofs.YtdogbdbjagechaaDoor.El
