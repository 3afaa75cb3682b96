/- Contracts of the functions that the law calls, part 2. -/
import Derived.Lib.TrailingZeros
import Derived.Test.YtpmmolamdlcmnaaGreatDoorRows
import Derived.Laws.NewBlocks
import Derived.Laws.Tables
import Derived.Laws.BitsAllLaws
import Derived.BigQuiet
import Derived.Deep.QuietTactic
import Derived.Deep.RegionWith
import Derived.Deep.DeepCutAuto
import Derived.WalkSpells
import Derived.WalkLawsBesides
import Derived.Test.YtpmmolamdlcmnaaGreatDoorZ1
namespace Go.Proofs.YtpmmolamdlcmnaaGreatDoor
open Go.RowKit
def joinF (es : List BRow) (len : Int) : List UInt8 := if len < 1 ∨ 512 < len then [] else if ((flat es).length : Int) < len then [] else (flat es).take len.toNat
def so (es : List BRow) (L k : Nat) : List UInt8 := (flat (es.take k)).take L
theorem so_le (es : List BRow) (L k : Nat) : (so es L k).length ≤ L := by simp [so]; omega
theorem so_next (es : List BRow) (L k : Nat) (r : BRow) (h : es[k]? = some r) (p : Nat) (hp : p = min r.l.length (L - (so es L k).length)) : so es L (k + 1) = so es L k ++ r.l.take p := by
  have hlk := (List.getElem?_eq_some_iff.1 h).1
  rw [List.getElem?_eq_getElem hlk] at h
  injection h with h
  have e1 : so es L (k + 1) = (flat (es.take k) ++ r.l).take L := by
    unfold so
    rw [List.take_succ_eq_append_getElem hlk, h, flat_snoc]
  have e2 : (so es L k).length = min L (flat (es.take k)).length := by unfold so; rw [List.length_take]
  rw [e1, List.take_append]
  show _ = (flat (es.take k)).take L ++ _
  congr 1
  rw [hp, e2]
  by_cases hy : r.l.length ≤ L - (flat (es.take k)).length
  · rw [show min r.l.length (L - min L (flat (es.take k)).length) = r.l.length by omega, List.take_length, List.take_of_length_le hy]
  · rw [show min r.l.length (L - min L (flat (es.take k)).length) = L - (flat (es.take k)).length by omega]
set_option maxRecDepth 100000 in
set_option maxHeartbeats 400000 in
theorem join_out (n cap : Nat) (A : Option Addr) (len : Int) (w : World) (h : len < 1 ∨ 512 < len) :
    Calls Tryz.prog 29 #[.slice A n cap, .int .i64 len] w (FreshBytes w.heap.size [] w) := by
  by_cases h1 : len < 1
  · go_enter Tryz.func29, Tryz.ntmps29
    go_wp2
    go_ret
    exact ⟨none, 0, 0, rfl, rfl, World.ownsRow_nil _ _ _ _, Below.refl _ _⟩
  · have h2 : 512 < len := by omega
    go_enter Tryz.func29, Tryz.ntmps29
    go_wp2
    go_ret
    exact ⟨none, 0, 0, rfl, rfl, World.ownsRow_nil _ _ _ _, Below.refl _ _⟩
set_option maxRecDepth 100000 in
set_option maxHeartbeats 800000 in
theorem join_in (B n cap : Nat) (A : Option Addr) (es : List BRow) (L : Nat) (w : World) (hl : Rows2 w B A n es) (h1 : 1 ≤ L) (h2 : L ≤ 512) (hn : n ≤ 1000000000000000000) (hB : B ≤ w.heap.size) (hbig : ∀ r ∈ es, r.n ≤ r.c ∧ r.c ≤ 9223372036854775807) :
    Calls Tryz.prog 29 #[.slice A n cap, .int .i64 (L : Int)] w (FreshBytes w.heap.size (joinF es L) w) := by
  obtain ⟨i0, hi, hz0, hz1, hz2⟩ := info_parts Tryz.info5
  have hN : es.length = n := by have := hl.1.1; simpa using this
  have HN := Lib.hid hN
  have HBIG := Lib.hid hbig
  clear hN hbig
  go_enter Tryz.func29, Tryz.ntmps29
  go_wp2_with (at_make; refine wpList_make_own _ rfl _ _ 23 rfl w.heap.size 5 i0 (.int .u8 0) 1 Tryz.underlying23 hi hz0 hz1 .i64 .i64 _ L rfl rfl (by omega) (by rw [hz2]; omega) (by unfold maxLen; omega) (by simp) ?_; intro w1 hown1 hg1)
  go_loopw [5, 18] (fun v i wr => ∃ k : Nat, k ≤ n ∧ i = .int .i64 k ∧ wr.ownsRow w.heap.size 5 1 v (so es L k).length (bv (so es L k)) ∧ Below w.heap.size w wr) (fun _ i _ => n - (intOf i).toNat)
  case atStart => exact ⟨0, by omega, rfl, by simpa [so, flat, bv] using hown1, (Below.refl _ _).grown hg1 (Nat.le_refl _) (by intro g h; nomatch h)⟩
  case round =>
    obtain ⟨k, hk, rfl, hown, hbk⟩ := hrel
    clear hown1 hg1
    have hsl := so_le es L k
    by_cases hlt : k < n
    · obtain ⟨b, o, rfl, r, hr, hcell, hrow⟩ := (hl.below (hbk.mono hB)).at_ hlt
      obtain ⟨hrn, hrc⟩ := HBIG.out r (List.mem_of_getElem? hr)
      obtain ⟨p, hp⟩ : ∃ p, p = min r.n (L - (so es L k).length) := ⟨_, rfl⟩
      have hnx := Lib.hid (so_next es L k r hr p (by rw [hrow.blen]; exact hp))
      have hlk := (List.getElem?_eq_some_iff.1 hr).1
      generalize hQ : so es L k = Q at *
      have HQ := Lib.hid hQ
      clear hQ hr
      generalize hq : Q.length = q at *
      have HQL := Lib.hid hq
      clear hq
      obtain ⟨Aq, cq, rfl, _⟩ := own_slice hown
      have hpn : p ≤ r.n := by omega
      have hpl : p ≤ L - q := by omega
      have hmin : (if (L : Int) - (q : Int) < (r.n : Int) then (L : Int) - (q : Int) else (r.n : Int)) = (p : Int) := by split <;> omega
      clear hp
      have hpc : (p : Int) ≤ (r.c : Int) := by omega
      have hhead : Row wr B r.A p (bv (r.l.take p)) := by rw [← bv_take]; exact hrow.head hpn
      go_wp2_with (at_builtin; refine wpList_app rfl (.tmp 22) (.tmp 31) 23 rfl w.heap.size 5 i0 (.int .u8 0) 1 Tryz.underlying23 hi hz0 hz1 hz2 rfl _ _ _ rfl hown B r.A p r.c (bv (r.l.take p)) rfl hhead (bv_one _) (by unfold maxLen; omega) (by omega) hbk.size ?_; intro v2 w2 hown2 hg2 hat2)
      have hb2 := below_app hbk hbk.size hown (Nat.le_refl _) hg2
      have hown3 : w2.ownsRow w.heap.size 5 1 v2 (so es L (k + 1)).length (bv (so es L (k + 1))) := by
        rw [hnx.out, bv_append, List.length_append, HQL.out, List.length_take, hrow.blen, Nat.min_eq_left hpn]
        exact hown2
      clear hown hown2 hg2 hat2
      go_roundw
      case rel => exact ⟨k + 1, by omega, by go_num, hown3, hb2⟩
      case measure => simp [intOf]; omega
    · have : k = n := by omega
      subst this
      have hall : so es L k = (flat es).take L := by unfold so; rw [show es.take k = es from List.take_of_length_le (by rw [HN.out]; omega)]
      rw [hall] at hown hsl
      have HJ : Hid (joinF es L = if (flat es).length < L then [] else (flat es).take L) := by
        show _ = _
        unfold joinF
        rw [if_neg (by omega)]
        by_cases hx : (flat es).length < L
        · rw [if_pos hx, if_pos (by omega)]
        · rw [if_neg hx, if_neg (by omega)]; rfl
      clear hall
      by_cases hx : (flat es).length < L
      · have hq : ((flat es).take L).length < L := by rw [List.length_take]; omega
        obtain ⟨A4, c4, rfl, _⟩ := own_slice hown
        generalize hql : ((flat es).take L).length = q at *
        clear hql
        go_wp2
        go_ret
        refine ⟨none, 0, 0, rfl, ?_, ?_, hbk⟩
        · rw [HJ.out, if_pos hx]; rfl
        · rw [HJ.out, if_pos hx]; exact World.ownsRow_nil _ _ _ _
      · have hq : ((flat es).take L).length = L := by rw [List.length_take]; omega
        rw [hq] at hown
        have HQ := Lib.hid hq
        clear hq hsl
        obtain ⟨A4, c4, rfl, _⟩ := own_slice hown
        go_wp2
        go_ret
        refine ⟨A4, L, c4, rfl, ?_, ?_, hbk⟩
        · rw [HJ.out, if_neg hx]; exact HQ.out.symm
        · rw [HJ.out, if_neg hx]; exact hown
end Go.Proofs.YtpmmolamdlcmnaaGreatDoor
namespace Go.Proofs.YtpmmolamdlcmnaaGreatDoor
namespace VecM
def word (X k : Nat) : Nat := X / 2 ^ (64 * k) % 2 ^ 64
theorem word_lt (X k : Nat) : word X k < 2 ^ 64 := Nat.mod_lt _ (Nat.two_pow_pos 64)
theorem word_bit (X k j : Nat) : (word X k).testBit j = (decide (j < 64) && X.testBit (64 * k + j)) := by
  unfold word; rw [Nat.testBit_mod_two_pow, Nat.testBit_div_two_pow, Nat.add_comm]
theorem word_or (X Y k : Nat) : word (X ||| Y) k = word X k ||| word Y k := by
  apply Nat.eq_of_testBit_eq; intro j
  rw [Nat.testBit_or, word_bit, word_bit, word_bit, Nat.testBit_or]
  cases decide (j < 64) <;> simp
theorem word_xor (X Y k : Nat) : word (X ^^^ Y) k = word X k ^^^ word Y k := by
  apply Nat.eq_of_testBit_eq; intro j
  rw [Nat.testBit_xor, word_bit, word_bit, word_bit, Nat.testBit_xor]
  cases decide (j < 64) <;> simp
theorem word_and (X Y k : Nat) : word (X &&& Y) k = word X k &&& word Y k := by
  apply Nat.eq_of_testBit_eq; intro j
  rw [Nat.testBit_and, word_bit, word_bit, word_bit, Nat.testBit_and]
  cases decide (j < 64) <;> simp
theorem word_one (i k : Nat) : word (2 ^ i) k = if k = i / 64 then 2 ^ (i % 64) else 0 := by
  apply Nat.eq_of_testBit_eq; intro j
  rw [word_bit, Nat.testBit_two_pow]
  by_cases h : k = i / 64
  · rw [if_pos h, Nat.testBit_two_pow]
    by_cases hj : j < 64
    · simp only [hj, decide_true, Bool.true_and]
      congr 1
      simp only [eq_iff_iff]
      omega
    · have : ¬ i % 64 = j := by omega
      simp [hj, this]
  · rw [if_neg h]
    by_cases hj : j < 64
    · have : ¬ i = 64 * k + j := by omega
      simp [this]
    · simp [hj]
/-- bit i let go -/
def clr (X i : Nat) : Nat := X ^^^ (X &&& 2 ^ i)
theorem clr_bit (X i j : Nat) : (clr X i).testBit j = (X.testBit j && decide (j ≠ i)) := by
  unfold clr
  rw [Nat.testBit_xor, Nat.testBit_and, Nat.testBit_two_pow]
  by_cases h : j = i
  · subst h; simp
  · have : ¬ i = j := fun e => h e.symm
    simp [h, this]
theorem clr_lt {X n i : Nat} (h : X < 2 ^ n) : clr X i < 2 ^ n :=
  Nat.xor_lt_two_pow h (Nat.lt_of_le_of_lt Nat.and_le_left h)
theorem word_clr (X i k : Nat) : word (clr X i) k = if k = i / 64 then clr (word X k) (i % 64) else word X k := by
  unfold clr
  rw [word_xor, word_and, word_one]
  by_cases h : k = i / 64
  · rw [if_pos h, if_pos h]
  · rw [if_neg h, if_neg h]; simp
theorem word_set (X i k : Nat) : word (X ||| 2 ^ i) k = if k = i / 64 then word X k ||| 2 ^ (i % 64) else word X k := by
  rw [word_or, word_one]
  by_cases h : k = i / 64
  · rw [if_pos h, if_pos h]
  · rw [if_neg h, if_neg h]; simp
theorem set_lt {X n i : Nat} (h : X < 2 ^ n) (hi : i < n) : X ||| 2 ^ i < 2 ^ n :=
  Nat.or_lt_two_pow h (Nat.pow_lt_pow_right (by decide) hi)
/-- '>> (i % 64) & 1' -/
theorem has_word (X i : Nat) : word X (i / 64) / 2 ^ (i % 64) % 2 = if X.testBit i then 1 else 0 := by
  have h := word_bit X (i / 64) (i % 64)
  rw [show 64 * (i / 64) + i % 64 = i by omega] at h
  have h64 : i % 64 < 64 := by omega
  simp only [h64, decide_true, Bool.true_and] at h
  rw [← h, Nat.testBit_eq_decide_div_mod_eq]
  by_cases e : word X (i / 64) / 2 ^ (i % 64) % 2 = 1
  · simp [e]
  · simp [e]; omega
/-- words beyond the row are nought -/
theorem word_beyond {X n k : Nat} (h : X < 2 ^ n) (hk : n ≤ 64 * k) : word X k = 0 := by
  unfold word
  rw [Nat.div_eq_of_lt (Nat.lt_of_lt_of_le h (Nat.pow_le_pow_right (by decide) hk))]
/-- rows of alike words are alike -/
theorem ext_words {X Y n m : Nat} (hX : X < 2 ^ n) (hY : Y < 2 ^ n) (hm : n ≤ 64 * m) (h : ∀ k, k < m → word X k = word Y k) : X = Y := by
  apply Nat.eq_of_testBit_eq; intro j
  have hw : word X (j / 64) = word Y (j / 64) := by
    by_cases hk : j / 64 < m
    · exact h _ hk
    · rw [word_beyond hX (by omega), word_beyond hY (by omega)]
  have h1 := word_bit X (j / 64) (j % 64)
  have h2 := word_bit Y (j / 64) (j % 64)
  rw [show 64 * (j / 64) + j % 64 = j by omega] at h1 h2
  have h64 : j % 64 < 64 := by omega
  simp only [h64, decide_true, Bool.true_and] at h1 h2
  rw [← h1, ← h2, hw]
/-- all places that are set, rising -/
def L (X n : Nat) : List Nat := (List.range n).filter X.testBit
theorem mem_L (X n j : Nat) : j ∈ L X n ↔ j < n ∧ X.testBit j = true := by simp [L]
theorem L_more {X n m : Nat} (h : X < 2 ^ n) (hm : n ≤ m) : L X m = L X n := by
  obtain ⟨d, rfl⟩ : ∃ d, m = n + d := ⟨m - n, by omega⟩
  unfold L
  rw [List.range_add, List.filter_append, (List.filter_eq_nil_iff (l := (List.range d).map (n + ·))).2 ?_, List.append_nil]
  intro j hj
  simp only [List.mem_map, List.mem_range] at hj
  obtain ⟨i, _, rfl⟩ := hj
  rw [Nat.testBit_lt_two_pow (Nat.lt_of_lt_of_le h (Nat.pow_le_pow_right (by decide) (by omega)))]
  decide
theorem L_step (X k : Nat) : L X (64 * (k + 1)) = L X (64 * k) ++ (L (word X k) 64).map (64 * k + ·) := by
  unfold L
  rw [show 64 * (k + 1) = 64 * k + 64 by omega, List.range_add, List.filter_append, List.filter_map]
  congr 2
  apply List.filter_congr
  intro j hj
  rw [word_bit]
  have : j < 64 := by simpa using hj
  simp [this]
/-- how many of the first k bits -/
def pop : Nat → Nat → Nat
  | 0, _ => 0
  | k + 1, x => x % 2 + pop k (x / 2)
theorem pop_L : ∀ (k x : Nat), (L x k).length = pop k x
  | 0, x => rfl
  | k + 1, x => by
    show _ = x % 2 + pop k (x / 2)
    rw [← pop_L k (x / 2)]
    unfold L
    rw [List.range_succ_eq_map, List.filter_cons, List.filter_map]
    have e : (x.testBit ∘ Nat.succ) = (x / 2).testBit := by funext j; exact Nat.testBit_succ x j
    rw [e, Nat.testBit_zero]
    by_cases h : x % 2 = 1
    · simp [h]; omega
    · have h0 : x % 2 = 0 := by omega
      simp [h0]
theorem pop_add : ∀ (a b x : Nat), pop (a + b) x = pop a x + pop b (x / 2 ^ a)
  | 0, b, x => by simp [pop]
  | a + 1, b, x => by
    rw [show a + 1 + b = (a + b) + 1 by omega]
    show x % 2 + pop (a + b) (x / 2) = x % 2 + pop a (x / 2) + _
    rw [pop_add a b (x / 2), Nat.div_div_eq_div_mul, ← Nat.pow_succ', Nat.add_assoc]
theorem pop_mod : ∀ (a x : Nat), pop a (x % 2 ^ a) = pop a x
  | 0, x => rfl
  | a + 1, x => by
    show x % 2 ^ (a + 1) % 2 + pop a (x % 2 ^ (a + 1) / 2) = x % 2 + pop a (x / 2)
    have e1 : x % 2 ^ (a + 1) % 2 = x % 2 := Nat.mod_mod_of_dvd x (by rw [Nat.pow_succ]; exact Nat.dvd_mul_left _ _)
    have e2 : x % 2 ^ (a + 1) / 2 = x / 2 % 2 ^ a := by
      rw [Nat.pow_succ, Nat.mul_comm, Nat.mod_mul_right_div_self]
    rw [e1, e2, pop_mod a (x / 2)]
/-- the lowest bit let go -/
theorem low_bits (y : Nat) (h0 : y ≠ 0) (h : y < 2 ^ 64) : ∃ c, Lib.ctz 64 y = c ∧ c < 64 ∧ y.testBit c = true ∧ (∀ j, j < c → y.testBit j = false) ∧ y &&& (y - 1) = clr y c := by
  obtain ⟨m, hm, hk⟩ := Lib.ctzFrom_spec 64 y (by omega) h
  have e : Lib.ctz 64 y = Lib.ctzFrom 64 y := by simp [Lib.ctz, h0]
  refine ⟨Lib.ctzFrom 64 y, e, hk, ?_⟩
  generalize Lib.ctzFrom 64 y = c at *
  have hy : ∀ j, y.testBit j = if j < c then false else (2 * m + 1).testBit (j - c) := by
    intro j
    have := Nat.testBit_two_pow_mul_add (2 * m + 1) (b := 0) (i := c) (Nat.two_pow_pos c) j
    rw [Nat.add_zero, ← hm] at this
    rw [this]; simp
  have hy1 : y - 1 = 2 ^ c * (2 * m) + (2 ^ c - 1) := by
    have hp := Nat.two_pow_pos c
    have : 2 ^ c * (2 * m + 1) = 2 ^ c * (2 * m) + 2 ^ c := by rw [Nat.mul_add, Nat.mul_one]
    omega
  have hp : 2 ^ c - 1 < 2 ^ c := by have := Nat.two_pow_pos c; omega
  refine ⟨?_, ?_, ?_⟩
  · rw [hy, if_neg (by omega), Nat.sub_self, Nat.testBit_zero]; simp
  · intro j hj; rw [hy, if_pos hj]
  · apply Nat.eq_of_testBit_eq; intro j
    rw [Nat.testBit_and, clr_bit, hy1, Nat.testBit_two_pow_mul_add _ hp, hy]
    by_cases hj : j < c
    · simp [hj]
    · rw [if_neg hj, if_neg hj]
      by_cases e2 : j = c
      · subst e2; simp
      · obtain ⟨i, rfl⟩ : ∃ i, j = c + (i + 1) := ⟨j - c - 1, by omega⟩
        rw [show c + (i + 1) - c = i + 1 by omega, Nat.testBit_succ, Nat.testBit_succ]
        have d1 : (2 * m + 1) / 2 = m := by omega
        have d2 : 2 * m / 2 = m := by omega
        rw [d1, d2]
        simp
theorem L_low (y c n : Nat) (hc : c < n) (h1 : y.testBit c = true) (h2 : ∀ j, j < c → y.testBit j = false) : L y n = c :: L (clr y c) n := by
  obtain ⟨d, rfl⟩ : ∃ d, n = c + 1 + d := ⟨n - c - 1, by omega⟩
  unfold L
  rw [List.range_add, List.range_succ, List.filter_append, List.filter_append, List.filter_append, List.filter_append]
  have a1 : (List.range c).filter y.testBit = [] := by
    rw [List.filter_eq_nil_iff]; intro j hj; rw [h2 j (by simpa using hj)]; decide
  have a2 : (List.range c).filter (clr y c).testBit = [] := by
    rw [List.filter_eq_nil_iff]; intro j hj; rw [clr_bit, h2 j (by simpa using hj)]; simp
  have a3 : ([c] : List Nat).filter y.testBit = [c] := by simp [h1]
  have a4 : ([c] : List Nat).filter (clr y c).testBit = [] := by simp [clr_bit]
  have a5 : ((List.range d).map (c + 1 + ·)).filter (clr y c).testBit = ((List.range d).map (c + 1 + ·)).filter y.testBit := by
    apply List.filter_congr
    intro j hj
    simp only [List.mem_map, List.mem_range] at hj
    obtain ⟨i, _, rfl⟩ := hj
    rw [clr_bit]
    have : c + 1 + i ≠ c := by omega
    simp [this]
  rw [a1, a2, a3, a4, a5]; rfl
theorem L_zero (n : Nat) : L 0 n = [] := by unfold L; rw [List.filter_eq_nil_iff]; intro j _; simp
theorem L_nil {X n : Nat} (hX : X < 2 ^ n) (h : L X n = []) : X = 0 := by
  apply Nat.eq_of_testBit_eq; intro j
  rw [Nat.zero_testBit]
  by_cases hj : j < n
  · unfold L at h
    rw [List.filter_eq_nil_iff] at h
    have := h j (by simpa using hj)
    simpa using this
  · exact Nat.testBit_lt_two_pow (Nat.lt_of_lt_of_le hX (Nat.pow_le_pow_right (by decide) (by omega)))
/- OnesCount64 -/
def s1 (x : Nat) : Nat := (x / 2 &&& 6148914691236517205) + (x &&& 6148914691236517205)
def s2 (x : Nat) : Nat := (x / 4 &&& 3689348814741910323) + (x &&& 3689348814741910323)
def s3 (x : Nat) : Nat := (x / 16 + x) &&& 1085102592571150095
def m8 (b : Nat) : Nat → Nat
  | 0 => 0
  | k + 1 => b + 256 * m8 b k
def fold8 (f : Nat → Nat) : Nat → Nat → Nat
  | 0, _ => 0
  | k + 1, x => f (x % 256) + 256 * fold8 f k (x / 256)
theorem and_byte (x b M : Nat) (hb : b < 256) : x &&& (b + 256 * M) = (x % 256 &&& b) + 256 * (x / 256 &&& M) := by
  have h1 : (x &&& (b + 256 * M)) % 256 = x % 256 &&& b := by
    have := Nat.and_mod_two_pow (n := 8) (a := x) (b := b + 256 * M)
    rw [show (2 : Nat) ^ 8 = 256 from rfl] at this
    rw [this]
    congr 1; omega
  have h2 : (x &&& (b + 256 * M)) / 256 = x / 256 &&& M := by
    have := Nat.and_div_two_pow (n := 8) (a := x) (b := b + 256 * M)
    rw [show (2 : Nat) ^ 8 = 256 from rfl] at this
    rw [this]
    congr 1; omega
  omega
theorem and_m8 (b : Nat) (hb : b < 256) : ∀ (k x : Nat), x &&& m8 b k = fold8 (· &&& b) k x
  | 0, x => by simp [m8, fold8]
  | k + 1, x => by
    show x &&& (b + 256 * m8 b k) = _
    rw [and_byte _ _ _ hb, and_m8 b hb k]; rfl
theorem fold8_congr (f g : Nat → Nat) (h : ∀ c, c < 256 → f c = g c) : ∀ k x, fold8 f k x = fold8 g k x
  | 0, _ => rfl
  | k + 1, x => by show _ + 256 * _ = _ + 256 * _; rw [h _ (by omega), fold8_congr f g h k]
theorem fold8_add (f g : Nat → Nat) : ∀ k x, fold8 f k x + fold8 g k x = fold8 (fun c => f c + g c) k x
  | 0, _ => rfl
  | k + 1, x => by
    show f _ + 256 * fold8 f k _ + (g _ + 256 * fold8 g k _) = f _ + g _ + 256 * _
    rw [← fold8_add f g k]; omega
/-- a sum of shifted and masked bytes, byte by byte -/
theorem fold8_shift (s b : Nat) (hs : 0 < s) (hd : s ∣ 256) (h : ∀ c, c < 256 → ∀ t, t < s → (c / s + 256 / s * t) &&& b = c / s &&& b) : ∀ k x, fold8 (· &&& b) k (x / s) = fold8 (fun c => c / s &&& b) k x
  | 0, _ => rfl
  | k + 1, x => by
    obtain ⟨r, hr⟩ := hd
    have hr0 : 0 < r := by
      rcases Nat.eq_zero_or_pos r with h0 | h0
      · subst h0; omega
      · exact h0
    have hq : 256 / s = r := by rw [hr]; exact Nat.mul_div_cancel_left _ hs
    have e1 : x / s / 256 = x / 256 / s := by rw [Nat.div_div_eq_div_mul, Nat.div_div_eq_div_mul, Nat.mul_comm]
    have e2 : x / s % 256 = x % 256 / s + r * (x / 256 % s) := by
      have h1 := Nat.div_add_mod x 256
      have h2 := Nat.div_add_mod (x / 256) s
      have h3 : x / s = x % 256 / s + r * (x / 256) := by
        conv => lhs; rw [← h1]
        rw [hr, Nat.mul_assoc, Nat.add_comm, Nat.add_mul_div_left _ _ hs]
      have h4 : x % 256 / s < r := by
        apply Nat.div_lt_of_lt_mul; rw [← hr]; exact Nat.mod_lt _ (by decide)
      have h5 : r * (x / 256) = r * (x / 256 % s) + 256 * (x / 256 / s) := by
        conv => lhs; rw [← h2]
        rw [hr, Nat.mul_add, ← Nat.mul_assoc, Nat.mul_comm r s, Nat.add_comm]
      have h6 : r * (x / 256 % s) + r ≤ 256 := by
        have : x / 256 % s < s := Nat.mod_lt _ hs
        have : r * (x / 256 % s + 1) ≤ r * s := Nat.mul_le_mul_left _ this
        rw [Nat.mul_add, Nat.mul_one, Nat.mul_comm r s, ← hr] at this
        exact this
      omega
    show (x / s % 256 &&& b) + 256 * fold8 (· &&& b) k (x / s / 256) = (x % 256 / s &&& b) + 256 * _
    rw [e1, fold8_shift s b hs ⟨r, hr⟩ h k, e2]
    have := h (x % 256) (Nat.mod_lt _ (by decide)) (x / 256 % s) (Nat.mod_lt _ hs)
    rw [hq] at this
    rw [this]
theorem fold8_comp (f g : Nat → Nat) (hg : ∀ c, c < 256 → g c < 256) : ∀ k x, fold8 f k (fold8 g k x) = fold8 (fun c => f (g c)) k x
  | 0, _ => rfl
  | k + 1, x => by
    have h := hg (x % 256) (Nat.mod_lt _ (by decide))
    show f ((g (x % 256) + 256 * fold8 g k (x / 256)) % 256) + 256 * fold8 f k ((g (x % 256) + 256 * fold8 g k (x / 256)) / 256) = f (g (x % 256)) + 256 * fold8 (fun c => f (g c)) k (x / 256)
    rw [← fold8_comp f g hg k (x / 256)]
    rw [show (g (x % 256) + 256 * fold8 g k (x / 256)) % 256 = g (x % 256) by omega, show (g (x % 256) + 256 * fold8 g k (x / 256)) / 256 = fold8 g k (x / 256) by omega]
theorem fold8_nib (G : Nat → Nat) (hG : ∀ c, c < 256 → G c ≤ 68 ∧ G c % 16 ≤ 4) : ∀ k x, (fold8 G k x / 16 + fold8 G k x) &&& m8 15 k = fold8 (fun c => (G c / 16 + G c) % 16) k x
  | 0, _ => by simp [m8, fold8]
  | k + 1, x => by
    obtain ⟨h1, h2⟩ := hG (x % 256) (Nat.mod_lt _ (by decide))
    have h3 : fold8 G k (x / 256) % 16 ≤ 4 := by
      cases k with
      | zero => simp [fold8]
      | succ k =>
        show (G (x / 256 % 256) + 256 * _) % 16 ≤ 4
        have := (hG (x / 256 % 256) (Nat.mod_lt _ (by decide))).2
        omega
    show ((G (x % 256) + 256 * fold8 G k (x / 256)) / 16 + (G (x % 256) + 256 * fold8 G k (x / 256))) &&& (15 + 256 * m8 15 k) = (G (x % 256) / 16 + G (x % 256)) % 16 + 256 * fold8 (fun c => (G c / 16 + G c) % 16) k (x / 256)
    rw [and_byte _ _ _ (by decide), ← fold8_nib G hG k (x / 256)]
    generalize G (x % 256) = a at *
    generalize fold8 G k (x / 256) = R at *
    rw [show ((a + 256 * R) / 16 + (a + 256 * R)) / 256 = R / 16 + R by omega]
    have e : ∀ y : Nat, y &&& 15 = y % 16 := fun y => Nat.and_two_pow_sub_one_eq_mod y 4
    rw [e]
    congr 1
    omega
def g1 (c : Nat) : Nat := (c / 2 &&& 85) + (c &&& 85)
def g2 (c : Nat) : Nat := (c / 4 &&& 51) + (c &&& 51)
theorem s1_fold (x : Nat) : s1 x = fold8 g1 8 x := by
  unfold s1
  rw [show (6148914691236517205 : Nat) = m8 85 8 from rfl, and_m8 85 (by decide), and_m8 85 (by decide), fold8_shift 2 85 (by decide) (by decide) (by decide +kernel), fold8_add]; rfl
theorem s2_fold (x : Nat) : s2 x = fold8 g2 8 x := by
  unfold s2
  rw [show (3689348814741910323 : Nat) = m8 51 8 from rfl, and_m8 51 (by decide), and_m8 51 (by decide), fold8_shift 4 51 (by decide) (by decide) (by decide +kernel), fold8_add]; rfl
theorem s3_fold (x : Nat) : s3 (s2 (s1 x)) = fold8 (pop 8) 8 x := by
  rw [s1_fold, s2_fold, fold8_comp g2 g1 (by decide +kernel)]
  unfold s3
  rw [show (1085102592571150095 : Nat) = m8 15 8 from rfl, fold8_nib _ (by decide +kernel)]
  exact fold8_congr _ _ (by decide +kernel) 8 x
theorem pop8_le (c : Nat) : pop 8 c ≤ 8 := by
  have : ∀ k c, pop k c ≤ k := by
    intro k
    induction k with
    | zero => intro c; exact Nat.le_refl 0
    | succ k ih => intro c; show c % 2 + pop k (c / 2) ≤ _; have := ih (c / 2); omega
  exact this 8 c
theorem dig (a R : Nat) (h : a < 256) : (a + 256 * R) / 256 = R := by omega
theorem dig2 (a b R : Nat) (h : a < 256) (hb : b < 256) : (a + 256 * (b + 256 * R)) / 65536 = R := by omega
theorem dig4 (a b c d R : Nat) (h : a < 256) (hb : b < 256) (hc : c < 256) (hd : d < 256) : (a + 256 * (b + 256 * (c + 256 * (d + 256 * R)))) / 4294967296 = R := by omega
theorem ones_sum (p0 p1 p2 p3 p4 p5 p6 p7 : Nat) (a0 : p0 ≤ 8) (a1 : p1 ≤ 8) (a2 : p2 ≤ 8) (a3 : p3 ≤ 8) (a4 : p4 ≤ 8) (a5 : p5 ≤ 8) (a6 : p6 ≤ 8) (a7 : p7 ≤ 8) (T : Nat)
    (hT : T = p0 + 256 * (p1 + 256 * (p2 + 256 * (p3 + 256 * (p4 + 256 * (p5 + 256 * (p6 + 256 * p7))))))) :
    T + T / 256 + (T + T / 256) / 65536 + (T + T / 256 + (T + T / 256) / 65536) / 4294967296 < 18446744073709551616 ∧ (T + T / 256 + (T + T / 256) / 65536 + (T + T / 256 + (T + T / 256) / 65536) / 4294967296) % 128 = p0 + (p1 + (p2 + (p3 + (p4 + (p5 + (p6 + p7)))))) := by
  have t1 : T / 256 = p1 + 256 * (p2 + 256 * (p3 + 256 * (p4 + 256 * (p5 + 256 * (p6 + 256 * p7))))) := by rw [hT]; clear hT; exact dig _ _ (by omega)
  obtain ⟨U, hU⟩ : ∃ U, T + T / 256 = U := ⟨_, rfl⟩
  rw [hU]
  have u0 : U = (p0 + p1) + 256 * ((p1 + p2) + 256 * ((p2 + p3) + 256 * ((p3 + p4) + 256 * ((p4 + p5) + 256 * ((p5 + p6) + 256 * ((p6 + p7) + 256 * p7)))))) := by rw [← hU, t1, hT]; clear hU t1 hT; omega
  have u1 : U / 65536 = (p2 + p3) + 256 * ((p3 + p4) + 256 * ((p4 + p5) + 256 * ((p5 + p6) + 256 * ((p6 + p7) + 256 * p7)))) := by rw [u0]; clear u0 hU t1 hT; exact dig2 _ _ _ (by omega) (by omega)
  obtain ⟨V, hV⟩ : ∃ V, U + U / 65536 = V := ⟨_, rfl⟩
  rw [hV]
  have v0 : V = (p0 + p1 + p2 + p3) + 256 * ((p1 + p2 + p3 + p4) + 256 * ((p2 + p3 + p4 + p5) + 256 * ((p3 + p4 + p5 + p6) + 256 * ((p4 + p5 + p6 + p7) + 256 * ((p5 + p6 + p7) + 256 * ((p6 + p7) + 256 * p7)))))) := by rw [← hV, u1, u0]; clear hV u1 u0 hU t1 hT; omega
  have v1 : V / 4294967296 = (p4 + p5 + p6 + p7) + 256 * ((p5 + p6 + p7) + 256 * ((p6 + p7) + 256 * p7)) := by rw [v0]; clear v0 hV u1 u0 hU t1 hT; exact dig4 _ _ _ _ _ (by omega) (by omega) (by omega) (by omega)
  have w0 : V + V / 4294967296 = (p0 + p1 + p2 + p3 + p4 + p5 + p6 + p7) + 256 * ((p1 + p2 + p3 + p4 + p5 + p6 + p7) + 256 * ((p2 + p3 + p4 + p5 + p6 + p7) + 256 * ((p3 + p4 + p5 + p6 + p7) + 256 * ((p4 + p5 + p6 + p7) + 256 * ((p5 + p6 + p7) + 256 * ((p6 + p7) + 256 * p7)))))) := by rw [v1, v0]; clear v1 v0 hV u1 u0 hU t1 hT; omega
  rw [w0]
  clear v0 v1 u0 u1 t1 hT hU hV w0
  constructor
  · omega
  · generalize (p1 + p2 + p3 + p4 + p5 + p6 + p7) + 256 * ((p2 + p3 + p4 + p5 + p6 + p7) + 256 * ((p3 + p4 + p5 + p6 + p7) + 256 * ((p4 + p5 + p6 + p7) + 256 * ((p5 + p6 + p7) + 256 * ((p6 + p7) + 256 * p7))))) = R
    omega
theorem ones_all (x : Nat) : ∃ T, s3 (s2 (s1 x)) = T ∧ T + T / 256 + (T + T / 256) / 65536 + (T + T / 256 + (T + T / 256) / 65536) / 4294967296 < 18446744073709551616 ∧ (T + T / 256 + (T + T / 256) / 65536 + (T + T / 256 + (T + T / 256) / 65536) / 4294967296) % 128 = pop 64 x := by
  refine ⟨_, s3_fold x, ?_⟩
  have h : ∀ b y, pop (8 + b) y = pop 8 (y % 256) + pop b (y / 256) := fun b y => by rw [pop_add 8 b y, ← pop_mod 8 y]
  have f : ∀ k y, fold8 (pop 8) (k + 1) y = pop 8 (y % 256) + 256 * fold8 (pop 8) k (y / 256) := fun _ _ => rfl
  have e : ∀ y, fold8 (pop 8) 0 y = 0 := fun _ => rfl
  have e0 : ∀ y, pop 0 y = 0 := fun _ => rfl
  have e2 := ones_sum _ _ _ _ _ _ _ _ (pop8_le (x % 256)) (pop8_le (x / 256 % 256)) (pop8_le (x / 256 / 256 % 256)) (pop8_le (x / 256 / 256 / 256 % 256)) (pop8_le (x / 256 / 256 / 256 / 256 % 256)) (pop8_le (x / 256 / 256 / 256 / 256 / 256 % 256)) (pop8_le (x / 256 / 256 / 256 / 256 / 256 / 256 % 256)) (pop8_le (x / 256 / 256 / 256 / 256 / 256 / 256 / 256 % 256)) (fold8 (pop 8) 8 x) (by
    rw [f 7, f 6, f 5, f 4, f 3, f 2, f 1, f 0, e, Nat.mul_zero, Nat.add_zero])
  have e3 : pop 64 x = _ := h 56 x
  rw [e3, show (56 : Nat) = 8 + 48 from rfl, h 48, show (48 : Nat) = 8 + 40 from rfl, h 40, show (40 : Nat) = 8 + 32 from rfl, h 32, show (32 : Nat) = 8 + 24 from rfl, h 24, show (24 : Nat) = 8 + 16 from rfl, h 16, show (16 : Nat) = 8 + 8 from rfl, h 8, show pop 8 (x / 256 / 256 / 256 / 256 / 256 / 256 / 256) = pop 8 (x / 256 / 256 / 256 / 256 / 256 / 256 / 256 % 256) from (pop_mod 8 _).symm]
  exact e2
end VecM
end Go.Proofs.YtpmmolamdlcmnaaGreatDoor
namespace Go.Proofs.YtpmmolamdlcmnaaGreatDoor.Vc
open Go.RowKit
open VecM
def mw (n : Nat) : Nat := (n + 63) / 64
/-- block g is a row of n bits, X as a number, its words in block h -/
def VecAt (W : World) (g h n X : Nat) : Prop :=
  n ≤ 256 ∧ X < 2 ^ n ∧ g ≠ h ∧ ∃ cap cs, W.heap[g]? = some (.cells #[.int .i64 (n : Int), .slice (some ⟨h, 0, none⟩) (mw n) cap] 116 (0, 0)) ∧
    W.heap[h]? = some (.cells cs 53 (0, 0)) ∧ mw n ≤ cap ∧ cap ≤ 9223372036854775807 ∧ mw n ≤ cs.size ∧ ∀ k, k < mw n → cs[k]? = some (.int .u64 (word X k : Int))
section
variable {W W' : World} {g h n X : Nat}
theorem VecAt.lt (v : VecAt W g h n X) : g < W.heap.size ∧ h < W.heap.size := by
  obtain ⟨_, _, _, cap, cs, h1, h2, _⟩ := v
  exact ⟨(Array.getElem?_eq_some_iff.1 h1).1, (Array.getElem?_eq_some_iff.1 h2).1⟩
theorem VecAt.keep (v : VecAt W g h n X) (h1 : W'.heap[g]? = W.heap[g]?) (h2 : W'.heap[h]? = W.heap[h]?) : VecAt W' g h n X := by
  obtain ⟨a, b, c, cap, cs, e1, e2, r⟩ := v
  exact ⟨a, b, c, cap, cs, h1.trans e1, h2.trans e2, r⟩
theorem VecAt.below (v : VecAt W g h n X) (hb : Below W.heap.size W W') : VecAt W' g h n X := v.keep (hb.block g v.lt.1) (hb.block h v.lt.2)
theorem VecAt.belowB {B : Nat} (v : VecAt W g h n X) (hb : Below B W W') (h1 : g < B) (h2 : h < B) : VecAt W' g h n X := v.keep (hb.block g h1) (hb.block h h2)
theorem VecAt.grown (v : VecAt W g h n X) {r : Nat} (hg : W.grownBy W' (some r)) (h1 : r ≠ g) (h2 : r ≠ h) : VecAt W' g h n X :=
  v.keep (hg.block g v.lt.1 (fun e => h1 (Option.some.inj e.symm ▸ rfl))) (hg.block h v.lt.2 (fun e => h2 (Option.some.inj e.symm ▸ rfl)))
theorem VecAt.drewN (v : VecAt W g h n X) (k : Nat) : VecAt (W.drewN k) g h n X := v
theorem VecAt.drew (v : VecAt W g h n X) : VecAt W.drew g h n X := v
/-- what the walk reads of it -/
theorem VecAt.cells (v : VecAt W g h n X) : ∃ cap, mw n ≤ cap ∧ cap ≤ 9223372036854775807 ∧ W.cell? ⟨g, 0, none⟩ = some (.int .i64 (n : Int)) ∧ W.cell? ⟨g, 1, none⟩ = some (.slice (some ⟨h, 0, none⟩) (mw n) cap) := by
  obtain ⟨_, _, _, cap, cs, h1, h2, h3, h4, _⟩ := v
  exact ⟨cap, h3, h4, by rw [cell_of_row W g 0 _ _ _ h1]; rfl, by rw [cell_of_row W g 1 _ _ _ h1]; rfl⟩
theorem VecAt.at_ (v : VecAt W g h n X) {k : Nat} (hk : k < mw n) : W.cell? ⟨h, k, none⟩ = some (.int .u64 (word X k : Int)) := by
  obtain ⟨_, _, _, cap, cs, _, h2, _, _, _, hc⟩ := v
  rw [cell_of_row W h k cs _ (0, 0) h2]; exact hc k hk
theorem VecAt.frozen (v : VecAt W g h n X) (k : Nat) : W.frozen? ⟨h, k, none⟩ = false := by
  obtain ⟨_, _, _, cap, cs, _, h2, _⟩ := v
  exact frozen_of_row W h k cs _ h2
theorem grown_set1 (W : World) (g k : Nat) (v : Value) : W.grownBy (W.setCell ⟨g, k, none⟩ v) (some g) :=
  ⟨rfl, rfl, rfl, by simp, fun j _ hj => heap_setCell_other W ⟨g, k, none⟩ j v (fun e => hj (by simp [e]))⟩
/-- a word stored -/
theorem VecAt.store (v : VecAt W g h n X) {k Y : Nat} {u : Int} (hk : k < mw n) (hY : Y < 2 ^ n) (hu : u = (word Y k : Int)) (ho : ∀ j, j < mw n → j ≠ k → word Y j = word X j) : VecAt (W.setCell ⟨h, k, none⟩ (.int .u64 u)) g h n Y := by
  obtain ⟨a, b, c, cap, cs, e1, e2, e3, e4, e5, e6⟩ := v
  refine ⟨a, hY, c, cap, cs.setIfInBounds k (.int .u64 u), ?_, heap_setCell_same W h k cs _ _ e2, e3, e4, by simpa using e5, fun j hj => ?_⟩
  · rw [heap_setCell_other W ⟨h, k, none⟩ g _ c]; exact e1
  · rw [Array.getElem?_setIfInBounds]
    by_cases e : k = j
    · subst e; rw [if_pos rfl, if_pos (by omega), hu]
    · rw [if_neg e, ho j hj (fun e' => e e'.symm)]; exact e6 j hj
end
theorem mw_le {n : Nat} (h : n ≤ 256) : mw n ≤ 4 := by unfold mw; omega
theorem mw_div {n i : Nat} (h : i < n) : i / 64 < mw n := by unfold mw; omega
theorem word_zero (k : Nat) : word 0 k = 0 := by unfold word; rw [Nat.zero_div, Nat.zero_mod]
theorem mk_u64 (w : World) : (zeroValue 53).run Tryz.prog w = .ok (.int .u64 0) w := by kernel_rfl
def NewOk (n : Nat) (w : World) (e : Ending) (w' : World) : Prop :=
  ∃ g h, e = .returned (.pointer (some ⟨g, 0, none⟩)) ∧ w.heap.size ≤ g ∧ w.heap.size ≤ h ∧ Hid (VecAt w' g h n 0) ∧ Hid (Below w.heap.size w w')
set_option maxRecDepth 100000 in
theorem new_bad (x : Int) (w : World) (h : x < 0 ∨ 256 < x) : Calls Tryz.prog 63 #[.int .i64 x] w fun e w' => e = .returned (.pointer none) ∧ w = w' := by
  rcases h with h | h
  · go_enter Tryz.func63, Tryz.ntmps63
    go_wp2_with fail
    go_ret
    exact ⟨rfl, rfl⟩
  · have h0 : ¬ x < 0 := by omega
    go_enter Tryz.func63, Tryz.ntmps63
    go_wp2_with fail
    go_ret
    exact ⟨rfl, rfl⟩
theorem infoU64 : (Tryz.prog.info? 53).map (fun i => (i.zero, i.size, i.bytes)) = some (some (.int .u64 0), 1, 8) := by kernel_rfl
/-- 'make([]uint64, n)' -/
theorem made_u64 (m : Nat) (hm : m ≤ 4) : ∃ C : Array Value, C.size = m ∧ (∀ k, k < m → C[k]? = some (.int .u64 0)) ∧ ∀ w : World, (Instr.makeSlice 114 (.int .i64 (m : Int)) (.int .i64 (m : Int))).run Tryz.prog w = .ok (.slice (some ⟨w.heap.size, 0, none⟩) m m) (w.alloc (.cells C 53)) := by
  obtain ⟨i0, hi, hz0, hz1, hz2⟩ := info_parts infoU64
  have h := fun w => run_make (P := Tryz.prog) w 114 53 i0 (.int .u64 0) Tryz.underlying114 hi hz0 .i64 .i64 (m : Int) (m : Int) (by omega) (by omega) (by rw [hz2]; omega) (by omega)
  rw [hz1] at h
  refine ⟨madeCells (Value.int .u64 0).cells m, ?_, ?_, fun w => by simpa using h w⟩
  · exact size_madeCells _ _
  · intro k hk
    have e : (madeCells (Value.int .u64 0).cells m).toList = List.replicate m (.int .u64 0) := toList_madeCells_one (.int .u64 0) m
    rw [← Array.getElem?_toList, e, List.getElem?_replicate, if_pos hk]
set_option maxRecDepth 100000 in
set_option maxHeartbeats 800000 in
theorem new_ok (n : Nat) (w : World) (h : n ≤ 256) : Calls Tryz.prog 63 #[.int .i64 (n : Int)] w (NewOk n w) := by
  have h1 : ¬ 256 < (n : Int) := by omega
  have e : ((n : Int) + 63) / 64 = (mw n : Int) := by unfold mw; omega
  have HE := Lib.hid e
  obtain ⟨C, hC1, hC2, hmk⟩ := made_u64 (mw n) (mw_le h)
  have HV : Hid (VecAt ((w.alloc (.cells C 53)).alloc (.cells #[.int .i64 (n : Int), .slice (some ⟨w.heap.size, 0, none⟩) (mw n) (mw n)] 116)) (w.heap.size + 1) w.heap.size n 0) := by
    have hm := mw_le h
    refine ⟨h, Nat.two_pow_pos n, by omega, mw n, C, ?_, ?_, Nat.le_refl _, by omega, by omega, fun k hk => ?_⟩
    · have := heap_alloc_new (w.alloc (.cells C 53)) (.cells #[.int .i64 (n : Int), .slice (some ⟨w.heap.size, 0, none⟩) (mw n) (mw n)] 116)
      simpa using this
    · have hb : Below (w.alloc (.cells C 53)).heap.size (w.alloc (.cells C 53)) ((w.alloc (.cells C 53)).alloc (.cells #[.int .i64 (n : Int), .slice (some ⟨w.heap.size, 0, none⟩) (mw n) (mw n)] 116)) := (Below.refl _ _).alloc (Nat.le_refl _) _
      rw [hb.block w.heap.size (by simp)]
      exact heap_alloc_new w _
    · rw [hC2 k hk, word_zero]; rfl
  clear e h hC1 hC2
  go_enter Tryz.func63, Tryz.ntmps63
  go_wp2_with (rw [HE.out])
  go_ret
  exact ⟨_, _, rfl, by omega, Nat.le_refl _, HV, ((Below.refl _ _).alloc (Nat.le_refl _) _).alloc (by simp) _⟩
set_option maxRecDepth 100000 in
theorem within_nil (i : Int) (w : World) : Calls Tryz.prog 61 #[.pointer none, .int .i64 i] w fun e w' => e = .returned (.bool false) ∧ w = w' := by
  go_enter Tryz.func61, Tryz.ntmps61
  go_wp2_with fail
  go_ret
  exact ⟨rfl, rfl⟩
set_option maxRecDepth 100000 in
theorem within_out (g h n X : Nat) (i : Int) (w : World) (v : VecAt w g h n X) (hi : i < 0 ∨ (n : Int) ≤ i) : Calls Tryz.prog 61 #[.pointer (some ⟨g, 0, none⟩), .int .i64 i] w fun e w' => e = .returned (.bool false) ∧ w = w' := by
  obtain ⟨cap, _, _, c0, _⟩ := v.cells
  clear v
  rcases hi with hi | hi
  · go_enter Tryz.func61, Tryz.ntmps61
    go_wp2_with fail
    go_ret
    exact ⟨rfl, rfl⟩
  · have h0 : 0 ≤ i := by omega
    have hd : decide (i < (n : Int)) = false := by simpa using hi
    go_enter Tryz.func61, Tryz.ntmps61
    go_wp2_with fail
    go_ret
    exact ⟨rfl, rfl⟩
set_option maxRecDepth 100000 in
theorem within_in (g h n X i : Nat) (w : World) (v : VecAt w g h n X) (hi : i < n) : Calls Tryz.prog 61 #[.pointer (some ⟨g, 0, none⟩), .int .i64 (i : Int)] w fun e w' => e = .returned (.bool true) ∧ w = w' := by
  obtain ⟨cap, _, _, c0, _⟩ := v.cells
  clear v
  have h0 : (i : Int) < (n : Int) := by omega
  go_enter Tryz.func61, Tryz.ntmps61
  go_wp2_with fail
  go_ret
  exact ⟨rfl, rfl⟩
end Go.Proofs.YtpmmolamdlcmnaaGreatDoor.Vc
namespace Go.Proofs.YtpmmolamdlcmnaaGreatDoor.Vc
open Go.RowKit
open VecM
theorem cast_shr (x k : Nat) : (x : Int) / 2 ^ k = ((x / 2 ^ k : Nat) : Int) := by
  rw [Int.natCast_ediv, Int.natCast_pow]; rfl
theorem and_one_u64 (x k : Nat) (h : x < 2 ^ 64) : bits .and .u64 ((x : Int) / 2 ^ k) 1 = ((x / 2 ^ k % 2 : Nat) : Int) := by
  have h2 : x / 2 ^ k < 18446744073709551616 := Nat.lt_of_le_of_lt (Nat.div_le_self _ _) h
  rw [cast_shr]
  have := u64_and_nat (x / 2 ^ k) 1 h2 (by decide)
  rw [Nat.and_one_is_mod] at this
  exact this
set_option maxRecDepth 100000 in
theorem len_nil (w : World) : Calls Tryz.prog 38 #[.pointer none] w fun e w' => e = .returned (.int .i64 0) ∧ w = w' := by
  go_enter Tryz.func38, Tryz.ntmps38
  go_wp2_with fail
  go_ret
  exact ⟨rfl, rfl⟩
set_option maxRecDepth 100000 in
theorem len_any (g h n X : Nat) (w : World) (v : VecAt w g h n X) : Calls Tryz.prog 38 #[.pointer (some ⟨g, 0, none⟩)] w fun e w' => e = .returned (.int .i64 (n : Int)) ∧ w = w' := by
  obtain ⟨cap, _, _, c0, _⟩ := v.cells
  clear v
  go_enter Tryz.func38, Tryz.ntmps38
  go_wp2_with fail
  go_ret
  exact ⟨rfl, rfl⟩
set_option maxRecDepth 100000 in
theorem has_no (p : Option Addr) (i : Int) (w : World) (hw : Calls Tryz.prog 61 #[.pointer p, .int .i64 i] w fun e w' => e = .returned (.bool false) ∧ w = w') : Calls Tryz.prog 41 #[.pointer p, .int .i64 i] w fun e w' => e = .returned (.bool false) ∧ w = w' := by
  have HW := Lib.hid hw
  clear hw
  go_enter Tryz.func41, Tryz.ntmps41
  go_wp2_with fail
  refine HW.out.mono ?_
  rintro e w' ⟨rfl, rfl⟩
  go_wp2_with fail
  go_ret
  exact ⟨rfl, rfl⟩
set_option maxRecDepth 100000 in
set_option maxHeartbeats 800000 in
theorem has_in (g h n X i : Nat) (w : World) (v : VecAt w g h n X) (hi : i < n) : Calls Tryz.prog 41 #[.pointer (some ⟨g, 0, none⟩), .int .i64 (i : Int)] w fun e w' => e = .returned (.bool (X.testBit i)) ∧ w = w' := by
  have HW := Lib.hid (within_in g h n X i w v hi)
  obtain ⟨cap, _, _, c0, c1⟩ := v.cells
  have hw := v.at_ (mw_div hi)
  have hlt := word_lt X (i / 64)
  have hb := has_word X i
  have hm : i / 64 < mw n := mw_div hi
  have hi2 : i < 256 := by have := v.1; omega
  generalize word X (i / 64) = x at *
  have HB := Lib.hid hb
  clear v hb
  go_enter Tryz.func41, Tryz.ntmps41
  go_wp2_with fail
  refine HW.out.mono ?_
  rintro e w' ⟨rfl, rfl⟩
  go_wp2_with fail
  go_ret
  refine ⟨?_, rfl⟩
  show Ending.returned (.bool (bits BinOp.and IntKind.u64 ((x : Int) / 2 ^ (i % 64)) 1 == 1)) = _
  rw [and_one_u64 _ _ hlt, HB.out]
  cases X.testBit i <;> rfl
def SetOk (g h n Y : Nat) (b : Bool) (w : World) (e : Ending) (w' : World) : Prop := e = .returned (.bool b) ∧ Hid (VecAt w' g h n Y) ∧ Hid (w.grownBy w' (some h))
set_option maxRecDepth 100000 in
theorem set_no (p : Option Addr) (i : Int) (on : Bool) (w : World) (hw : Calls Tryz.prog 61 #[.pointer p, .int .i64 i] w fun e w' => e = .returned (.bool false) ∧ w = w') : Calls Tryz.prog 58 #[.pointer p, .int .i64 i, .bool on] w fun e w' => e = .returned (.bool false) ∧ w = w' := by
  have HW := Lib.hid hw
  clear hw
  go_enter Tryz.func58, Tryz.ntmps58
  go_wp2_with fail
  refine HW.out.mono ?_
  rintro e w' ⟨rfl, rfl⟩
  go_wp2_with fail
  go_ret
  exact ⟨rfl, rfl⟩
theorem wrap_pow (k : Nat) (h : k < 64) : IntKind.u64.wrap ((2 : Int) ^ k) = ((2 ^ k : Nat) : Int) := by
  have h2 : 2 ^ k < 2 ^ 64 := Nat.pow_lt_pow_right (by decide) h
  rw [IntKind.wrap_u64, show (2 : Int) ^ k = ((2 ^ k : Nat) : Int) by rw [Int.natCast_pow]; rfl]
  generalize 2 ^ k = p at *
  omega
theorem or_pow (x k : Nat) (hx : x < 2 ^ 64) (h : k < 64) : bits .or .u64 (x : Int) (IntKind.u64.wrap (2 ^ k)) = ((x ||| 2 ^ k : Nat) : Int) := by
  rw [wrap_pow k h, u64_or_nat _ _ hx (Nat.pow_lt_pow_right (by decide) h)]
theorem andNot_pow (x k : Nat) (hx : x < 2 ^ 64) (h : k < 64) : bits .andNot .u64 (x : Int) (IntKind.u64.wrap (2 ^ k)) = ((clr x k : Nat) : Int) := by
  have hp : 2 ^ k < 2 ^ 64 := Nat.pow_lt_pow_right (by decide) h
  rw [wrap_pow k h, u64_andNot_nat _ _ hx hp]
  congr 1
  apply Nat.eq_of_testBit_eq; intro j
  rw [Nat.testBit_and, clr_bit, show 18446744073709551615 - 2 ^ k = 2 ^ 64 - (2 ^ k + 1) by omega, Nat.testBit_two_pow_sub_succ hp, Nat.testBit_two_pow]
  by_cases hj : j < 64
  · by_cases e : j = k
    · subst e; simp
    · have e2 : ¬ k = j := fun h => e h.symm
      simp [hj, e, e2]
  · rw [Nat.testBit_lt_two_pow (Nat.lt_of_lt_of_le hx (Nat.pow_le_pow_right (by decide) (by omega)))]; simp
/-- bit i as it shall be -/
def put (X i : Nat) (on : Bool) : Nat := if on then X ||| 2 ^ i else clr X i
theorem put_lt {X n i : Nat} (on : Bool) (h : X < 2 ^ n) (hi : i < n) : put X i on < 2 ^ n := by
  unfold put; split
  · exact set_lt h hi
  · exact clr_lt h
set_option maxRecDepth 100000 in
set_option maxHeartbeats 800000 in
theorem set_in (g h n X i : Nat) (on : Bool) (w : World) (v : VecAt w g h n X) (hi : i < n) : Calls Tryz.prog 58 #[.pointer (some ⟨g, 0, none⟩), .int .i64 (i : Int), .bool on] w (SetOk g h n (put X i on) true w) := by
  have HW := Lib.hid (within_in g h n X i w v hi)
  obtain ⟨cap, _, _, c0, c1⟩ := v.cells
  have hw := v.at_ (mw_div hi)
  have hf := v.frozen (i / 64)
  have hlt := word_lt X (i / 64)
  have hm : i / 64 < mw n := mw_div hi
  have hi2 : i < 256 := by have := v.1; omega
  have HV : Hid (∀ u, u = (word (put X i on) (i / 64) : Int) → VecAt (w.setCell ⟨h, i / 64, none⟩ (.int .u64 u)) g h n (put X i on)) := fun u hu => v.store hm (put_lt on v.2.1 hi) hu fun j _ hj => by
    unfold put; split
    · rw [word_set, if_neg hj]
    · rw [word_clr, if_neg hj]
  have HP : Hid (word (put X i on) (i / 64) = if on then word X (i / 64) ||| 2 ^ (i % 64) else clr (word X (i / 64)) (i % 64)) := by
    show _ = _
    unfold put; split
    · rw [word_set, if_pos rfl]
    · rw [word_clr, if_pos rfl]
  generalize word X (i / 64) = x at *
  clear v
  cases on with
  | true =>
    go_enter Tryz.func58, Tryz.ntmps58
    go_wp2_with fail
    refine HW.out.mono ?_
    rintro e w' ⟨rfl, rfl⟩
    go_wp2_with fail
    go_ret
    refine ⟨rfl, HV.out _ ?_, grown_set1 _ _ _ _⟩
    rw [HP.out, or_pow _ _ hlt (by omega)]; simp
  | false =>
    go_enter Tryz.func58, Tryz.ntmps58
    go_wp2_with fail
    refine HW.out.mono ?_
    rintro e w' ⟨rfl, rfl⟩
    go_wp2_with fail
    go_ret
    refine ⟨rfl, HV.out _ ?_, grown_set1 _ _ _ _⟩
    rw [HP.out, andNot_pow _ _ hlt (by omega)]; simp
/-- numbers as cells -/
def nv (l : List Int) : List Value := l.map fun x => .int .i64 x
theorem nv_length (l : List Int) : (nv l).length = l.length := by simp [nv]
theorem nv_get (l : List Int) (k : Nat) (h : k < l.length) : (nv l)[k]? = some (.int .i64 l[k]) := by simp [nv, h]
theorem nv_append (l m : List Int) : nv (l ++ m) = nv l ++ nv m := by simp [nv]
def setOne (n X : Nat) (z : Int) : Nat := if 0 ≤ z ∧ z < (n : Int) then X ||| 2 ^ z.toNat else X
def ofL (n : Nat) (l : List Int) : Nat := l.foldl (setOne n) 0
theorem ofL_snoc (n : Nat) (l : List Int) (z : Int) : ofL n (l ++ [z]) = setOne n (ofL n l) z := by simp [ofL]
theorem ofL_take (n : Nat) (l : List Int) (k : Nat) (h : k < l.length) : ofL n (l.take (k + 1)) = setOne n (ofL n (l.take k)) l[k] := by
  rw [List.take_succ_eq_append_getElem h, ofL_snoc]
def OfOk (n X : Nat) (w : World) (e : Ending) (w' : World) : Prop :=
  ∃ g h, e = .returned (.pointer (some ⟨g, 0, none⟩)) ∧ w.heap.size ≤ g ∧ w.heap.size ≤ h ∧ Hid (VecAt w' g h n X) ∧ Hid (Below w.heap.size w w')
/-- Set, whatever the place -/
theorem set_one (g h n X : Nat) (z : Int) (w : World) (v : VecAt w g h n X) : Calls Tryz.prog 58 #[.pointer (some ⟨g, 0, none⟩), .int .i64 z, .bool true] w fun e w' => ∃ b, e = .returned (.bool b) ∧ Hid (VecAt w' g h n (setOne n X z)) ∧ Hid (w.grownBy w' (some h)) := by
  by_cases hz : 0 ≤ z ∧ z < (n : Int)
  · obtain ⟨i, rfl⟩ : ∃ i : Nat, z = (i : Int) := ⟨z.toNat, by omega⟩
    refine (set_in g h n X i true w v (by omega)).mono ?_
    rintro e w' ⟨rfl, h1, h2⟩
    refine ⟨true, rfl, ?_, h2⟩
    rw [show setOne n X (i : Int) = put X i true by unfold setOne put; rw [if_pos hz, if_pos rfl, Int.toNat_natCast]]
    exact h1
  · refine (set_no _ z true w (within_out g h n X z w v (by omega))).mono ?_
    rintro e w' ⟨rfl, rfl⟩
    refine ⟨false, rfl, ?_, ⟨rfl, rfl, rfl, Nat.le_refl _, fun _ _ _ => rfl⟩⟩
    rw [show setOne n X z = X by unfold setOne; rw [if_neg hz]]
    exact v
set_option maxRecDepth 100000 in
set_option maxHeartbeats 1600000 in
theorem of_bad (x : Int) (A : Option Addr) (m c B : Nat) (zs : List Int) (w : World) (hr : Row w B A m (nv zs)) (hm : m ≤ 4611686018427387904) (h : x < 0 ∨ 256 < x) : Calls Tryz.prog 43 #[.int .i64 x, .slice A m c] w fun e w' => e = .returned (.pointer none) ∧ w = w' := by
  have HX := Lib.hid h
  have HR := Lib.hid hr
  have HL := Lib.hid (nv_length zs ▸ hr.1)
  clear h hr
  go_enter Tryz.func43, Tryz.ntmps43
  go_wp2_with fail
  refine (new_bad x w HX.out).mono ?_
  rintro e w' ⟨rfl, rfl⟩
  go_wp2_with fail
  go_loopw [12] (fun i wr => ∃ k : Nat, k ≤ m ∧ i = .int .i64 k ∧ w = wr) (fun i _ => m - (intOf i).toNat)
  case atStart => exact ⟨0, by omega, rfl, rfl⟩
  case round =>
    obtain ⟨k, hk, rfl, rfl⟩ := hrel
    by_cases hlt : k < m
    · obtain ⟨b, o, rfl, _, hc⟩ := HR.out.cellAt hlt (nv_get zs k (by rw [HL.out]; exact hlt))
      generalize zs[k]'(by rw [HL.out]; exact hlt) = z at *
      go_wp2_with fail
      refine (set_no none z true w (within_nil z w)).mono ?_
      rintro e w' ⟨rfl, rfl⟩
      go_wp2_with fail
      go_roundw
      case rel => exact ⟨k + 1, by omega, by go_num, trivial⟩
      case measure => simp [intOf]; omega
    · obtain rfl : m = k := by omega
      go_wp2_with fail
      go_ret
      exact ⟨rfl, rfl⟩
set_option maxRecDepth 100000 in
set_option maxHeartbeats 1600000 in
theorem of_any (n : Nat) (A : Option Addr) (m c B : Nat) (zs : List Int) (w : World) (hr : Row w B A m (nv zs)) (hB : B ≤ w.heap.size) (hm : m ≤ 4611686018427387904) (h : n ≤ 256) : Calls Tryz.prog 43 #[.int .i64 (n : Int), .slice A m c] w (OfOk n (ofL n zs) w) := by
  have HR := Lib.hid hr
  have HL := Lib.hid (nv_length zs ▸ hr.1)
  clear hr
  go_enter Tryz.func43, Tryz.ntmps43
  go_wp2_with fail
  refine (new_ok n w h).mono ?_
  rintro e w1 ⟨g, h1, rfl, hg, hh, hv, hb⟩
  go_wp2_with fail
  go_loopw [12] (fun i wr => ∃ k : Nat, k ≤ m ∧ i = .int .i64 k ∧ Hid (VecAt wr g h1 n (ofL n (zs.take k))) ∧ Hid (Below w.heap.size w wr)) (fun i _ => m - (intOf i).toNat)
  case atStart => exact ⟨0, by omega, rfl, hv, hb⟩
  case round =>
    obtain ⟨k, hk, rfl, hvk, hbk⟩ := hrel
    by_cases hlt : k < m
    · have hkl : k < zs.length := by rw [HL.out]; exact hlt
      obtain ⟨b, o, rfl, hbB, hc⟩ := (HR.out.below (hbk.out.mono hB)).cellAt hlt (nv_get zs k hkl)
      have HT := Lib.hid (ofL_take n zs k hkl)
      generalize zs[k]'hkl = z at *
      go_wp2_with fail
      refine (set_one g h1 n _ z wr hvk.out).mono ?_
      rintro e w2 ⟨b2, rfl, hv2, hg2⟩
      have hb2 : Hid (Below w.heap.size w w2) := hbk.out.grown hg2.out hbk.out.size (by intro r hr; injection hr with hr; omega)
      rw [← HT.out] at hv2
      clear hg2
      go_wp2_with fail
      go_roundw
      case rel => exact ⟨k + 1, by omega, by go_num, hv2, hb2⟩
      case measure => simp [intOf]; omega
    · obtain rfl : m = k := by omega
      rw [List.take_of_length_le (by rw [HL.out]; omega)] at hvk
      go_wp2_with fail
      go_ret
      exact ⟨g, h1, rfl, hg, hh, hvk, hbk⟩
end Go.Proofs.YtpmmolamdlcmnaaGreatDoor.Vc
namespace Go.Proofs.YtpmmolamdlcmnaaGreatDoor.Vc
open Go.RowKit
open VecM
/-- the library's table, as its initialiser lays it -/
def DTab (W : World) : Prop := 0 < W.heap.size ∧ ∀ j, j < 64 → W.cell? ⟨0, j, none⟩ = some (.int .u8 (Lib.deBruijn64tab.getD j 0 : Nat))
theorem DTab.below {W W' : World} {B : Nat} (h : DTab W) (hb : Below B W W') (hB : 0 < B) : DTab W' :=
  ⟨by have := h.1; have := hb.size; omega, fun j hj => by rw [hb.cell (p := ⟨0, j, none⟩) hB]; exact h.2 j hj⟩
theorem DTab.grow {W W' : World} (h : DTab W) (hb : Below W.heap.size W W') : DTab W' := h.below hb h.1
theorem DTab.grown {W W' : World} {r : Nat} (h : DTab W) (hg : W.grownBy W' (some r)) (hr : r ≠ 0) : DTab W' :=
  ⟨by have := h.1; have := hg.size; omega, fun j hj => by
    rw [World.cell?_of_block (w := W) (a := ⟨0, j, none⟩) (hg.block _ h.1 (fun e => hr (Option.some.inj e.symm ▸ rfl)))]; exact h.2 j hj⟩
theorem wrap_u32'' (n : Int) : IntKind.u64.wrap n = n % 18446744073709551616 := IntKind.wrap_u64 n
theorem tz_key (x a : Nat) (hx : x < 18446744073709551616) (hx0 : x ≠ 0) (hlow : x &&& (18446744073709551616 - x) = a) :
    IntKind.u64.wrap (bits BinOp.and IntKind.u64 (x : Int) (IntKind.u64.wrap (-(x : Int))) * 285870213051353865) / 288230376151711744 = ((a * 285870213051353865 % 18446744073709551616 / 288230376151711744 : Nat) : Int) := by
  have e1 : IntKind.u64.wrap (-(x : Int)) = ((18446744073709551616 - x : Nat) : Int) := by rw [IntKind.wrap_u64]; omega
  rw [e1, u64_and_nat x _ hx (by omega), hlow, IntKind.wrap_u64]
  omega
set_option maxHeartbeats 1000000 in
theorem tz_core (x k idx : Nat) (w : World) (hx0 : ((x : Int) == 0) = false)
    (key : IntKind.u64.wrap (bits BinOp.and IntKind.u64 (x : Int) (IntKind.u64.wrap (-(x : Int))) * 285870213051353865) / 288230376151711744 = (idx : Int))
    (hi : idx < 64) (hk : k < 64) (hcell : w.cell? ⟨0, idx, none⟩ = some (.int .u8 k)) :
    Calls Tryz.prog 60 #[.int .u64 x] w fun e w' => e = .returned (.int .i64 k) ∧ w = w' := by
  go_enter Tryz.func60, Tryz.ntmps60
  go_wp2_with (simp only [key])
  go_ret
  exact ⟨rfl, rfl⟩
theorem tz_any (x : Nat) (w : World) (ht : DTab w) (hx : x < 2 ^ 64) (h0 : x ≠ 0) : Calls Tryz.prog 60 #[.int .u64 (x : Int)] w fun e w' => e = .returned (.int .i64 (Lib.ctz 64 x : Int)) ∧ w = w' := by
  obtain ⟨hlow, hk⟩ := Lib.lowest_bit 64 x h0 hx
  obtain ⟨hi, htab⟩ := Lib.deBruijn64_at _ hk
  have hcell := ht.2 _ hi
  rw [htab] at hcell
  exact tz_core x _ _ w (by simp; omega) (tz_key x _ hx h0 hlow) hi hk hcell
theorem e_s1 (x : Nat) (hx : x < 2 ^ 64) : IntKind.u64.wrap (bits BinOp.and IntKind.u64 ((x : Int) / 2) 6148914691236517205 + bits BinOp.and IntKind.u64 (x : Int) 6148914691236517205) = (s1 x : Int) ∧ s1 x < 2 ^ 64 := by
  have h1 : x / 2 &&& 6148914691236517205 ≤ 6148914691236517205 := Nat.and_le_right
  have h2 : x &&& 6148914691236517205 ≤ 6148914691236517205 := Nat.and_le_right
  have a1 := u64_and_nat (x / 2) 6148914691236517205 (by omega) (by decide)
  have a2 := u64_and_nat x 6148914691236517205 (by omega) (by decide)
  have e : ((x / 2 : Nat) : Int) = (x : Int) / 2 := by omega
  rw [e] at a1
  have a1' : bits BinOp.and IntKind.u64 ((x : Int) / 2) 6148914691236517205 = ((x / 2 &&& 6148914691236517205 : Nat) : Int) := a1
  have a2' : bits BinOp.and IntKind.u64 (x : Int) 6148914691236517205 = ((x &&& 6148914691236517205 : Nat) : Int) := a2
  rw [a1', a2', IntKind.wrap_u64]
  unfold s1
  omega
theorem e_s2 (x : Nat) (hx : x < 2 ^ 64) : IntKind.u64.wrap (bits BinOp.and IntKind.u64 ((x : Int) / 4) 3689348814741910323 + bits BinOp.and IntKind.u64 (x : Int) 3689348814741910323) = (s2 x : Int) ∧ s2 x ≤ 7378697629483820646 := by
  have h1 : x / 4 &&& 3689348814741910323 ≤ 3689348814741910323 := Nat.and_le_right
  have h2 : x &&& 3689348814741910323 ≤ 3689348814741910323 := Nat.and_le_right
  have a1 := u64_and_nat (x / 4) 3689348814741910323 (by omega) (by decide)
  have a2 := u64_and_nat x 3689348814741910323 (by omega) (by decide)
  have e : ((x / 4 : Nat) : Int) = (x : Int) / 4 := by omega
  rw [e] at a1
  have a1' : bits BinOp.and IntKind.u64 ((x : Int) / 4) 3689348814741910323 = ((x / 4 &&& 3689348814741910323 : Nat) : Int) := a1
  have a2' : bits BinOp.and IntKind.u64 (x : Int) 3689348814741910323 = ((x &&& 3689348814741910323 : Nat) : Int) := a2
  rw [a1', a2', IntKind.wrap_u64]
  unfold s2
  omega
theorem e_s3 (x : Nat) (hx : x ≤ 7378697629483820646) : bits BinOp.and IntKind.u64 (IntKind.u64.wrap ((x : Int) / 16 + (x : Int))) 1085102592571150095 = (s3 x : Int) ∧ s3 x ≤ 1085102592571150095 := by
  have h1 : (x / 16 + x) &&& 1085102592571150095 ≤ 1085102592571150095 := Nat.and_le_right
  have e : IntKind.u64.wrap ((x : Int) / 16 + (x : Int)) = ((x / 16 + x : Nat) : Int) := by rw [IntKind.wrap_u64]; omega
  rw [e]
  have a1 := u64_and_nat (x / 16 + x) 1085102592571150095 (by omega) (by decide)
  exact ⟨a1, h1⟩
theorem e_add (T d : Nat) (D : Int) (hD : (d : Int) = D) (h : T + T / d < 2 ^ 64) : IntKind.u64.wrap ((T : Int) + (T : Int) / D) = ((T + T / d : Nat) : Int) := by
  subst hD
  rw [IntKind.wrap_u64, show (T : Int) / (d : Int) = ((T / d : Nat) : Int) by rw [Int.natCast_ediv]]
  generalize T / d = q at *
  omega
theorem e_127 (T : Nat) (h : T < 9223372036854775808) : bits BinOp.and IntKind.i64 (T : Int) 127 = ((T % 128 : Nat) : Int) := by
  have e : T &&& 127 = T % 128 := Nat.and_two_pow_sub_one_eq_mod T 7
  have h1 : (BitVec.ofInt 64 (T : Int)).toNat = T := by
    rw [BitVec.ofInt_natCast, BitVec.toNat_ofNat]; exact Nat.mod_eq_of_lt (by omega)
  have h2 : (BitVec.ofInt 64 (127 : Int)).toNat = 127 := by rfl
  show IntKind.i64.wrap ((BitVec.ofInt 64 (T : Int) &&& BitVec.ofInt 64 (127 : Int)).toNat : Int) = _
  rw [BitVec.toNat_and, h1, h2, e]
  exact IntWalk.i64_in _ (by omega)
end Go.Proofs.YtpmmolamdlcmnaaGreatDoor.Vc
