/- What a decoder's matrix says of an image: plain mathematics. -/
import Derived.Test.YtoblapnnpjgpnaaGreatDoorDcIQ
import Derived.Test.YtoblapnnpjgpnaaGreatDoorZMQ
import Derived.Test.YtoblapnnpjgpnaaGreatDoorZLQ
namespace Go.Proofs.YtoblapnnpjgpnaaGreatDoor.Dc
open Go.RowKit
open VecM RdM Vc Sp Pc El Cd
theorem ext_z {a b : List UInt8} {Z : Nat} (ha : a.length = Z) (hb : b.length = Z) (h : ∀ j, j < Z → a.getD j 0 = b.getD j 0) : a = b := by
  apply List.ext_getElem (by rw [ha, hb])
  intro j h1 h2
  have := h j (by omega)
  simpa [List.getD, h1, h2] using this
theorem sumR_bits (z : Nat) (ls : List (List UInt8)) (X Y : Nat) (j : Nat) (hj : j < z) : ∀ k, (sumR (X ^^^ Y) z ls k).getD j 0 = (sumR X z ls k).getD j 0 ^^^ (sumR Y z ls k).getD j 0
  | 0 => by simp [sumR, List.getD, hj]
  | k + 1 => by
    have ih := sumR_bits z ls X Y j hj k
    unfold sumR
    rw [Nat.testBit_xor]
    cases hx : X.testBit k <;> cases hy : Y.testBit k
    · simpa using ih
    · simp only [Bool.false_xor, if_true, Bool.false_eq_true, if_false]
      rw [xorL_at _ _ _ (by rw [sumR_length]; exact hj), xorL_at _ _ _ (by rw [sumR_length]; exact hj), ih, UInt8.xor_assoc]
    · simp only [Bool.xor_false, if_true, Bool.false_eq_true, if_false]
      rw [xorL_at _ _ _ (by rw [sumR_length]; exact hj), xorL_at _ _ _ (by rw [sumR_length]; exact hj), ih, UInt8.xor_assoc, UInt8.xor_comm ((sumR Y z ls k).getD j 0), ← UInt8.xor_assoc]
    · simp only [Bool.xor_self, if_true, Bool.false_eq_true, if_false]
      rw [xorL_at _ _ _ (by rw [sumR_length]; exact hj), xorL_at _ _ _ (by rw [sumR_length]; exact hj), ih, byte_mix, UInt8.xor_self, UInt8.xor_zero]
theorem sumR_add (z : Nat) (ls : List (List UInt8)) (k X Y : Nat) : xorL (sumR X z ls k) (sumR Y z ls k) = sumR (X ^^^ Y) z ls k := by
  apply ext_z (Z := z) (by rw [xorL_length, sumR_length]) (sumR_length _ _ _ _)
  intro j hj
  rw [xorL_at _ _ _ (by rw [sumR_length]; exact hj), sumR_bits z ls X Y j hj k]
theorem sumR_below (z : Nat) (ls : List (List UInt8)) (X : Nat) : ∀ k, (∀ i, i < k → X.testBit i = false) → sumR X z ls k = List.replicate z 0
  | 0, _ => rfl
  | k + 1, h => by
    unfold sumR
    rw [if_neg (by rw [h k (by omega)]; decide)]
    exact sumR_below z ls X k fun i hi => h i (by omega)
theorem xorL_zero_left {a : List UInt8} {z : Nat} (ha : a.length = z) : xorL (List.replicate z 0) a = a := by
  apply ext_z (Z := z) (by rw [xorL_length, List.length_replicate]) ha
  intro j hj
  rw [xorL_at _ _ _ (by rw [List.length_replicate]; exact hj)]
  simp [List.getD, hj]
/-- one bit alone -/
theorem sumR_one {z i k : Nat} {ls : List (List UInt8)} (hi : i < k) (hl : (ls.getD i []).length = z) : sumR (2 ^ i) z ls k = ls.getD i [] := by
  induction k with
  | zero => omega
  | succ k ih =>
    unfold sumR
    by_cases e : i = k
    · subst e
      rw [if_pos (by rw [Nat.testBit_two_pow]; simp), sumR_below z ls _ i (fun q hq => by rw [Nat.testBit_two_pow]; simp; omega), xorL_zero_left hl]
    · rw [if_neg (by rw [Nat.testBit_two_pow]; simp; exact e)]
      exact ih (by omega)
theorem sumR_same {z X : Nat} {ls ms : List (List UInt8)} : ∀ k, (∀ i, i < k → ls.getD i [] = ms.getD i []) → sumR X z ls k = sumR X z ms k
  | 0, _ => rfl
  | k + 1, h => by
    unfold sumR
    rw [sumR_same k fun i hi => h i (by omega), h k (by omega)]
theorem sumR_stop {z X k : Nat} {ls : List (List UInt8)} : ∀ m, (∀ i, k ≤ i → i < k + m → X.testBit i = false) → sumR X z ls (k + m) = sumR X z ls k
  | 0, _ => rfl
  | m + 1, h => by
    have e : sumR X z ls (k + (m + 1)) = if X.testBit (k + m) then xorL (sumR X z ls (k + m)) (ls.getD (k + m) []) else sumR X z ls (k + m) := rfl
    rw [e, if_neg (by rw [h (k + m) (by omega) (by omega)]; decide)]
    exact sumR_stop m fun i h1 h2 => h i h1 (by omega)
/-- what the bits say of the image: the sum of its pieces -/
def dataX (s K P Z : Nat) (img : List UInt8) (X : Nat) : List UInt8 := sumR X Z (allC s K P Z img) (K + P)
theorem dataX_length (s K P Z : Nat) (img : List UInt8) (X : Nat) : (dataX s K P Z img X).length = Z := sumR_length _ _ _ _
theorem dataX_add (s K P Z : Nat) (img : List UInt8) (X Y : Nat) : xorL (dataX s K P Z img X) (dataX s K P Z img Y) = dataX s K P Z img (X ^^^ Y) := sumR_add _ _ _ _ _
theorem dataX_one {s K P Z i : Nat} {img : List UInt8} (h : i < K + P) : dataX s K P Z img (2 ^ i) = (allC s K P Z img).getD i [] := sumR_one h (allC_zi h)
theorem parJ_bit (s K j i : Nat) (hi : K ≤ i) : (parJ s K j).testBit i = decide (K + j = i) := by
  unfold parJ
  rw [parX_bit, if_neg (by omega)]
theorem parJ_lt {s K P j : Nat} (hj : j < P) : parJ s K j < 2 ^ (K + P) := by
  apply Nat.lt_pow_two_of_testBit
  intro i hi
  rw [parJ_bit s K j i (by omega)]
  simp; omega
theorem allC_par {s K P Z j : Nat} {img : List UInt8} (hj : j < P) : (allC s K P Z img).getD (K + j) [] = sumR (parJ s K j) Z (pcsL img Z K) K := by
  unfold allC allP
  rw [List.getD_eq_getElem?_getD, List.getElem?_append_right (by rw [pcsL_length]; omega), pcsL_length, Nat.add_sub_cancel_left]
  simp [hj]
/-- a row of parity says nothing -/
theorem dataX_par {s K P Z j : Nat} {img : List UInt8} (hj : j < P) : dataX s K P Z img (parJ s K j) = List.replicate Z 0 := by
  have e1 : sumR (parJ s K j) Z (allC s K P Z img) K = sumR (parJ s K j) Z (pcsL img Z K) K := sumR_same K fun i hi => by rw [allC_first hi, pcsL_get hi]
  have e2 : sumR (parJ s K j) Z (allC s K P Z img) (K + j) = sumR (parJ s K j) Z (allC s K P Z img) K := sumR_stop j fun i h1 h2 => by rw [parJ_bit s K j i h1]; simp; omega
  have e3 : sumR (parJ s K j) Z (allC s K P Z img) (K + j + 1) = List.replicate Z 0 := by
    unfold sumR
    rw [if_pos (by rw [parJ_bit s K j _ (by omega)]; simp), e2, e1, allC_par hj, xorL_self, sumR_length]
  unfold dataX
  have e4 : K + P = K + j + 1 + (P - j - 1) := by omega
  rw [e4, sumR_stop (P - j - 1) (fun i h1 h2 => by rw [parJ_bit s K j i (by omega)]; simp; omega), e3]
theorem Ls_n {X n : Nat} (hX : X < 2 ^ n) (hn : n ≤ 256) : Ls X = L X n := L_more hX hn
theorem sumF_snoc {l : List (List UInt8)} {x : List UInt8} {Z : Nat} (h0 : l ≠ []) (h : ∀ y ∈ l, y.length = Z) (hx : x.length = Z) : sumF (l ++ [x]) = xorL (sumF l) x := by
  cases l with
  | nil => exact absurd rfl h0
  | cons a t =>
    have ha := h a (by simp)
    rw [List.cons_append, sumF_eq (fun y hy => by
      rcases List.mem_append.1 hy with q | q
      · rw [h y (by simp [q]), ha]
      · rw [List.mem_singleton.1 q, hx, ha]), sumF_eq (fun y hy => by rw [h y (by simp [hy]), ha]), sumTo_snoc]
theorem sumR_list {z X : Nat} {ls : List (List UInt8)} : ∀ k, (∀ i, i < k → (ls.getD i []).length = z) → (L X k ≠ [] → sumF ((L X k).map fun i => ls.getD i []) = sumR X z ls k) ∧ (L X k = [] → sumR X z ls k = List.replicate z 0)
  | 0, _ => ⟨fun h => absurd rfl h, fun _ => rfl⟩
  | k + 1, h => by
    obtain ⟨i1, i2⟩ := sumR_list (z := z) (X := X) (ls := ls) k fun i hi => h i (by omega)
    rw [L_snoc]
    unfold sumR
    cases hb : X.testBit k with
    | false =>
      simp only [Bool.false_eq_true, if_false, List.append_nil]
      exact ⟨i1, i2⟩
    | true =>
      simp only [if_true]
      refine ⟨fun _ => ?_, fun e => absurd e (by simp)⟩
      rw [List.map_append, List.map_singleton]
      by_cases e : L X k = []
      · rw [e, i2 e, xorL_zero_left (h k (by omega))]
        show sumF [_] = _
        rw [sumF_eq (by simp)]
        rfl
      · rw [sumF_snoc (Z := z) (by simpa using e) (fun y hy => by
          obtain ⟨i, hi, rfl⟩ := List.mem_map.1 hy
          exact h i (by have := (mem_L X k i).1 hi; omega)) (h k (by omega)), i1 e]
/-- a symbol's data are what its bits say -/
theorem dataX_sym {s K P Z id : Nat} {img : List UInt8} (hK : 1 ≤ K) (hn : K + P ≤ 80) : dataX s K P Z img (spX s K P id) = symX s K P Z img id := by
  have hne : L (spX s K P id) (K + P) ≠ [] := by
    rw [← Ls_n (spX_lt (s := s) (id := id)) (by omega)]
    have h := (spX_count (s := s) (id := id) hK hn).1
    intro e; rw [e] at h; simp at h
  unfold symX dataX
  rw [Ls_n (spX_lt (s := s) (id := id)) (by omega), (sumR_list (K + P) fun i hi => allC_zi hi).1 hne]
/-- the rows that a decoder has at first -/
def parP (s K P : Nat) (X : Nat) : Prop := ∃ j, j < P ∧ X = parJ s K j
theorem matR_got {s K P Z : Nat} (hn : K + P ≤ 80) : ∀ k, k ≤ P → Got (K + P) Z (matR s K P Z k) (parP s K k)
  | 0, _ => (Got.start (K + P) Z).congr fun X => ⟨fun h => h.elim, fun ⟨j, hj, _⟩ => absurd hj (Nat.not_lt_zero j)⟩
  | k + 1, hk => by
    refine ((matR_got hn k (by omega)).add (by omega) (parJ_lt (by omega)) (l := List.replicate Z 0) (by simp)).congr fun X => ⟨?_, ?_⟩
    · rintro (⟨j, hj, e⟩ | e)
      · exact ⟨j, by omega, e⟩
      · exact ⟨k, by omega, e⟩
    · rintro ⟨j, hj, e⟩
      by_cases h : j < k
      · exact .inl ⟨j, h, e⟩
      · exact .inr (by rw [e]; congr 1; omega)
theorem matR_data {s K P Z : Nat} {img : List UInt8} (hn : K + P ≤ 80) : ∀ k, k ≤ P → DataOf (dataX s K P Z img) (matR s K P Z k)
  | 0, _ => DataOf.start _ _
  | k + 1, hk => by
    have h := (matR_data (s := s) (Z := Z) (img := img) hn k (by omega)).add (dataX_add s K P Z img) (matR_got hn k (by omega)).inv (by omega) (parJ_lt (s := s) (K := K) (P := P) (j := k) (by omega)) (dataX_length _ _ _ _ _ _)
    rw [dataX_par (by omega)] at h
    exact h
theorem matR_rank {s K P Z : Nat} (hn : K + P ≤ 80) : ∀ k, k ≤ P → rankM (matR s K P Z k) = k
  | 0, _ => by show rankM (List.replicate (K + P) none) = 0; simp [rankM]
  | k + 1, hk => by
    have hg := matR_got (s := s) (Z := Z) hn k (by omega)
    have hnew : (addMx (K + P) (matR s K P Z k) (parJ s K k) (List.replicate Z 0)).2 = true := by
      rw [hg.says]
      intro hs
      have := span_bit (j := K + k) (fun X hX => by
        obtain ⟨j, hj, e⟩ := hX
        rw [e, parJ_bit s K j _ (by omega)]
        simp; omega) hs
      rw [parJ_bit s K k _ (by omega)] at this
      simp at this
    have hr := rank_add hg.inv (by omega) (parJ_lt (s := s) (K := K) (P := P) (j := k) (by omega)) (l := List.replicate Z 0) (by simp)
    show rankM (addMx (K + P) (matR s K P Z k) (parJ s K k) (List.replicate Z 0)).1 = k + 1
    rw [hr, hnew, matR_rank hn k (by omega)]
    rfl
/-- solved, it is the image -/
theorem full_img {s K P Z : Nat} {M : Mx} {img : List UInt8} (h : Inv (K + P) Z M) (hf : rankM M = K + P) (hd : DataOf (dataX s K P Z img) M) : (solM M).take K = pcsL img Z K := by
  rw [solM_full h hf hd]
  apply List.ext_getElem?
  intro i
  by_cases hi : i < K
  · rw [List.getElem?_take_of_lt hi]
    have hi2 : i < K + P := by omega
    simp only [List.getElem?_map, List.getElem?_range hi2, Option.map_some]
    rw [dataX_one hi2, allC_first hi]
    simp [pcsL, hi]
  · rw [List.getElem?_eq_none (by simp; omega), List.getElem?_eq_none (by rw [pcsL_length]; omega)]
theorem joinLs_img {Z K : Nat} {img : List UInt8} (h1 : 1 ≤ img.length) (h2 : img.length ≤ 512) (h : img.length ≤ K * Z) : joinLs (pcsL img Z K) (img.length : Int) = img := by
  have e := pcsL_flat h
  have hl : img.length ≤ ((pcsL img Z K).flatMap fun l => l).length := by
    have := congrArg List.length e
    rw [List.length_take] at this
    have h3 : ((pcsL img Z K).flatMap id).length = ((pcsL img Z K).flatMap fun l => l).length := rfl
    omega
  unfold joinLs
  rw [if_neg (by omega), if_neg (by omega), Int.toNat_natCast]
  exact e
end Go.Proofs.YtoblapnnpjgpnaaGreatDoor.Dc
