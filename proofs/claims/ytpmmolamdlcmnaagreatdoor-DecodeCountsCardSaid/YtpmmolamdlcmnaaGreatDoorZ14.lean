/- Contracts of the functions that the law calls, part 14. -/
import Derived.Test.YtpmmolamdlcmnaaGreatDoorZ13
namespace Go.Proofs.YtpmmolamdlcmnaaGreatDoor.Cd
open Go.RowKit
open VecM RdM Vc Sp Pc
/-- the pieces of an image -/
def pcsL (img : List UInt8) (Z K : Nat) : List (List UInt8) := (List.range K).map (BlkM.piece img Z)
theorem pcsL_length (img : List UInt8) (Z K : Nat) : (pcsL img Z K).length = K := by simp [pcsL]
theorem pcsL_z {img : List UInt8} {Z K : Nat} : ∀ l ∈ pcsL img Z K, l.length = Z := by
  intro l hl
  obtain ⟨j, _, rfl⟩ := List.mem_map.1 hl
  exact BlkM.piece_length _ _ _
theorem pcsL_get {img : List UInt8} {Z K i : Nat} (h : i < K) : (pcsL img Z K).getD i [] = BlkM.piece img Z i := by simp [pcsL, List.getD, h]
/-- all pieces, those of parity behind -/
def allC (s K P Z : Nat) (img : List UInt8) : List (List UInt8) := allP s K Z (pcsL img Z K) P
theorem allC_length (s K P Z : Nat) (img : List UInt8) : (allC s K P Z img).length = K + P := by unfold allC; rw [allP_length, pcsL_length]
theorem allC_z {s K P Z : Nat} {img : List UInt8} : ∀ l ∈ allC s K P Z img, l.length = Z := allP_len pcsL_z
theorem getD_mem {α : Type} {l : List α} {i : Nat} {d : α} (h : i < l.length) : l.getD i d ∈ l := by
  rw [List.getD_eq_getElem?_getD, List.getElem?_eq_getElem h]; exact List.getElem_mem h
theorem allC_zi {s K P Z i : Nat} {img : List UInt8} (h : i < K + P) : ((allC s K P Z img).getD i []).length = Z := allC_z _ (getD_mem (by rw [allC_length]; exact h))
theorem allC_first {s K P Z i : Nat} {img : List UInt8} (h : i < K) : (allC s K P Z img).getD i [] = BlkM.piece img Z i := by
  have hl : i < (pcsL img Z K).length := by rw [pcsL_length]; exact h
  unfold allC allP
  rw [List.getD_eq_getElem?_getD, List.getElem?_append_left hl, ← List.getD_eq_getElem?_getD, pcsL_get h]
theorem allC_prefix {s K P Q Z i : Nat} {img : List UInt8} (hQ : Q ≤ P) (h : i < K + Q) : (allC s K Q Z img).getD i [] = (allC s K P Z img).getD i [] := by
  by_cases hk : i < K
  · rw [allC_first hk, allC_first hk]
  · unfold allC allP
    have e1 : i - K < Q := by omega
    have e2 : i - K < P := by omega
    rw [List.getD_eq_getElem?_getD, List.getD_eq_getElem?_getD, List.getElem?_append_right (by rw [pcsL_length]; omega), List.getElem?_append_right (by rw [pcsL_length]; omega), pcsL_length]
    simp [e1, e2]
theorem allC_take (s K P Z : Nat) (img : List UInt8) : (allC s K P Z img).take K = pcsL img Z K := by
  unfold allC allP
  rw [List.take_append_of_le_length (by rw [pcsL_length]; exact Nat.le_refl _), List.take_of_length_le (by rw [pcsL_length]; exact Nat.le_refl _)]
theorem pcsL_flat {img : List UInt8} {Z K : Nat} (h : img.length ≤ K * Z) : ((pcsL img Z K).flatMap id).take img.length = img := by
  have e : (pcsL img Z K).flatMap id = ((List.range K).map (BlkM.piece img Z)).flatten := by simp [pcsL, List.flatMap_def]
  rw [e, BlkM.pieces_flat img Z K h, BlkM.pad_take]
end Go.Proofs.YtpmmolamdlcmnaaGreatDoor.Cd
namespace Go.Proofs.YtpmmolamdlcmnaaGreatDoor.Cd
open Go.RowKit
open VecM RdM Vc Sp Pc
/-- symbol id -/
def symX (s K P Z : Nat) (img : List UInt8) (id : Nat) : List UInt8 := sumF ((Ls (spX s K P id)).map fun i => (allC s K P Z img).getD i [])
theorem sumF_eq {h : List UInt8} {t : List (List UInt8)} (e : ∀ x ∈ t, x.length = h.length) : sumF (h :: t) = sumTo h t := by
  show (if ∀ x ∈ t, x.length = h.length then sumTo h t else []) = _
  rw [if_pos e]
theorem Ls_lt {s K P id i : Nat} (hi : i ∈ Ls (spX s K P id)) : i < K + P := by
  have h := (mem_L _ _ _).1 hi
  by_cases e : i < K + P
  · exact e
  · have h1 : spX s K P id < 2 ^ i := Nat.lt_of_lt_of_le spX_lt (Nat.pow_le_pow_right (by decide) (by omega))
    rw [Nat.testBit_lt_two_pow h1] at h
    exact absurd h.2 (by decide)
theorem sumF_z {l : List (List UInt8)} {Z : Nat} (h0 : l ≠ []) (h : ∀ x ∈ l, x.length = Z) : (sumF l).length = Z := by
  cases l with
  | nil => exact absurd rfl h0
  | cons a t =>
    have ha := h a (by simp)
    rw [sumF_eq (fun x hx => by rw [h x (by simp [hx]), ha]), sumTo_length, ha]
theorem sym_z {s K P Z id : Nat} {img : List UInt8} : ∀ x ∈ (Ls (spX s K P id)).map (fun i => (allC s K P Z img).getD i []), x.length = Z := by
  intro x hx
  obtain ⟨i, hi, rfl⟩ := List.mem_map.1 hx
  exact allC_zi (Ls_lt hi)
theorem sym_ne {s K P Z id : Nat} {img : List UInt8} (hK : 1 ≤ K) (hn : K + P ≤ 80) : (Ls (spX s K P id)).map (fun i => (allC s K P Z img).getD i []) ≠ [] := by
  have h := (spX_count (s := s) (id := id) hK hn).1
  intro e
  have := congrArg List.length e
  simp at this
  rw [this] at h
  simp at h
theorem symX_length {s K P Z id : Nat} {img : List UInt8} (hK : 1 ≤ K) (hn : K + P ≤ 80) : (symX s K P Z img id).length = Z := sumF_z (sym_ne hK hn) sym_z
theorem symX_first {s K P Z id : Nat} {img : List UInt8} (h : id < K) (hK : 1 ≤ K) (hn : K + P ≤ 80) : symX s K P Z img id = (allC s K P Z img).getD id [] := by
  unfold symX
  rw [(spX_count (s := s) (id := id) hK hn).2.2 h]
  show sumF [_] = _
  rw [sumF_eq (by simp)]
  rfl
theorem xorL_getD (a b : List UInt8) (j : Nat) (h : j < a.length) : (xorL a b).getD j 0 = a.getD j 0 ^^^ b.getD j 0 := by
  unfold xorL
  rw [xl_getD _ _ _ _ h, if_pos h]
theorem sumTo_getD (j : Nat) : ∀ (t : List (List UInt8)) (h : List UInt8), j < h.length → (sumTo h t).getD j 0 = t.foldl (fun a x => a ^^^ x.getD j 0) (h.getD j 0)
  | [], h, _ => rfl
  | x :: t, h, hj => by
    show (sumTo (xorL h x) t).getD j 0 = _
    rw [sumTo_getD j t (xorL h x) (by rw [xorL_length]; exact hj), xorL_getD _ _ _ hj]
    rfl
theorem xor4 (a b c d : UInt8) : (a ^^^ b) ^^^ (c ^^^ d) = (a ^^^ c) ^^^ (b ^^^ d) := by
  rw [UInt8.xor_assoc, UInt8.xor_assoc, ← UInt8.xor_assoc b c d, UInt8.xor_comm b c, UInt8.xor_assoc c b d]
theorem fold_lin (fa fb fc : Nat → UInt8) : ∀ (l : List Nat) (a b : UInt8), (∀ i ∈ l, fc i = fa i ^^^ fb i) → l.foldl (fun x i => x ^^^ fc i) (a ^^^ b) = l.foldl (fun x i => x ^^^ fa i) a ^^^ l.foldl (fun x i => x ^^^ fb i) b
  | [], a, b, _ => rfl
  | i :: l, a, b, h => by
    show l.foldl _ ((a ^^^ b) ^^^ fc i) = l.foldl _ (a ^^^ fa i) ^^^ l.foldl _ (b ^^^ fb i)
    rw [h i (by simp), xor4, fold_lin fa fb fc l _ _ (fun i hi => h i (by simp [hi]))]
theorem sumF_lin {l : List Nat} {Z : Nat} (fa fb fc : Nat → List UInt8) (h0 : l ≠ []) (ha : ∀ i ∈ l, (fa i).length = Z) (hb : ∀ i ∈ l, (fb i).length = Z) (hc : ∀ i ∈ l, (fc i).length = Z) (j : Nat) (hj : j < Z)
    (h : ∀ i ∈ l, (fc i).getD j 0 = (fa i).getD j 0 ^^^ (fb i).getD j 0) : (sumF (l.map fc)).getD j 0 = (sumF (l.map fa)).getD j 0 ^^^ (sumF (l.map fb)).getD j 0 := by
  cases l with
  | nil => exact absurd rfl h0
  | cons i t =>
    have g : ∀ f : Nat → List UInt8, (∀ i' ∈ i :: t, (f i').length = Z) → (sumF ((i :: t).map f)).getD j 0 = t.foldl (fun x k => x ^^^ (f k).getD j 0) ((f i).getD j 0) := by
      intro f hf
      rw [List.map_cons, sumF_eq (fun x hx => by
        obtain ⟨k, hk, rfl⟩ := List.mem_map.1 hx
        rw [hf k (by simp [hk]), hf i (by simp)]), sumTo_getD _ _ _ (by rw [hf i (by simp)]; exact hj), List.foldl_map]
    rw [g fa ha, g fb hb, g fc hc, h i (by simp)]
    exact fold_lin (fun k => (fa k).getD j 0) (fun k => (fb k).getD j 0) (fun k => (fc k).getD j 0) t _ _ (fun k hk => h k (by simp [hk]))
theorem piece_getD (img : List UInt8) (Z i j : Nat) (hj : j < Z) : (BlkM.piece img Z i).getD j 0 = img.getD (i * Z + j) 0 := by
  unfold BlkM.piece
  by_cases h : j < ((img.drop (i * Z)).take Z).length
  · rw [List.getD_eq_getElem?_getD, List.getElem?_append_left h, List.getElem?_take, if_pos hj, List.getElem?_drop, List.getD_eq_getElem?_getD]
  · have h2 : img[i * Z + j]? = none := by
      apply List.getElem?_eq_none
      simp at h; omega
    rw [List.getD_eq_getElem?_getD, List.getElem?_append_right (by omega), List.getD_eq_getElem?_getD, h2]
    rw [List.getElem?_replicate]
    split <;> rfl
/-- images of one length: what is the sum of two has symbols that are sums -/
theorem symX_lin {s K P Z id : Nat} {a b c : List UInt8} (hK : 1 ≤ K) (hn : K + P ≤ 80) (h : ∀ j, c.getD j 0 = a.getD j 0 ^^^ b.getD j 0) (j : Nat) (hj : j < Z) :
    (symX s K P Z c id).getD j 0 = (symX s K P Z a id).getD j 0 ^^^ (symX s K P Z b id).getD j 0 := by
  have hne : Ls (spX s K P id) ≠ [] := by
    have h := (spX_count (s := s) (id := id) hK hn).1
    intro e; rw [e] at h; simp at h
  have hR : RelS Z (pcsL a Z K) K (pcsL b Z K) (pcsL c Z K) := ⟨pcsL_length _ _ _, pcsL_length _ _ _, pcsL_z, pcsL_z, fun i hi j hj => by
    rw [pcsL_get hi, pcsL_get hi, pcsL_get hi, piece_getD _ _ _ _ hj, piece_getD _ _ _ _ hj, piece_getD _ _ _ _ hj, h]⟩
  exact sumF_lin (fun i => (allC s K P Z a).getD i []) (fun i => (allC s K P Z b).getD i []) (fun i => (allC s K P Z c).getD i []) hne (fun i hi => allC_zi (Ls_lt hi)) (fun i hi => allC_zi (Ls_lt hi)) (fun i hi => allC_zi (Ls_lt hi)) j hj
    (fun i hi => allP_lin (pcsL_length _ _ _) hR i (Ls_lt hi) j hj)
end Go.Proofs.YtpmmolamdlcmnaaGreatDoor.Cd
namespace Go.Proofs.YtpmmolamdlcmnaaGreatDoor.Pc
open Go.RowKit
open VecM RdM Vc Sp
theorem L_step (X n : Nat) : L X (n + 1) = L X n ++ (if X.testBit n then [n] else []) := by
  unfold L
  rw [List.range_succ, List.filter_append]
  congr 1
  cases h : X.testBit n <;> simp [h]
theorem putBit (X k i : Nat) (on : Bool) : (put X k on).testBit i = if i = k then on else X.testBit i := by
  unfold put
  cases on with
  | true =>
    rw [if_pos rfl, Nat.testBit_or, Nat.testBit_two_pow]
    by_cases e : i = k
    · subst e; simp
    · rw [if_neg e]; simp; intro h; exact absurd h.symm e
  | false =>
    rw [if_neg (by decide), clr_bit]
    by_cases e : i = k
    · subst e; simp
    · rw [if_neg e]; simp [e]
theorem parX_bit (x0 : Int) (b i : Nat) : ∀ k, (parX x0 b k).testBit i = if i < k then odd (mx (shk x0 (i + 1))) else decide (b = i)
  | 0 => by rw [if_neg (by omega)]; exact Nat.testBit_two_pow
  | k + 1 => by
    show (put (parX x0 b k) k _).testBit i = _
    rw [putBit, parX_bit x0 b i k]
    by_cases e : i = k
    · subst e; rw [if_pos rfl, if_pos (by omega)]
    · rw [if_neg e]
      by_cases h : i < k
      · rw [if_pos h, if_pos (by omega)]
      · rw [if_neg h, if_neg (by omega)]
theorem L_none (X a : Nat) : ∀ d, (∀ i, a ≤ i → i < a + d → X.testBit i = false) → L X (a + d) = L X a
  | 0, _ => rfl
  | d + 1, h => by
    rw [← Nat.add_assoc, L_step, h (a + d) (by omega) (by omega), L_none X a d (fun i h1 h2 => h i h1 (by omega))]
    simp
/-- the places of row j: some of the first K, then its own -/
theorem Ls_par (s K j : Nat) (h : K + j < 256) : L (parJ s K j) 256 = L (parJ s K j) K ++ [K + j] := by
  have hbit : ∀ i, K ≤ i → (parJ s K j).testBit i = decide (K + j = i) := fun i hi => by
    unfold parJ
    rw [parX_bit, if_neg (by omega)]
  have h1 : L (parJ s K j) (K + j) = L (parJ s K j) K := L_none _ K j (fun i hi hi2 => by rw [hbit i hi]; simp; omega)
  have h2 : L (parJ s K j) (K + j + 1) = L (parJ s K j) K ++ [K + j] := by
    rw [L_step, h1, hbit (K + j) (by omega)]
    simp
  have h3 : L (parJ s K j) (K + j + 1 + (255 - (K + j))) = L (parJ s K j) (K + j + 1) := L_none _ _ _ (fun i hi hi2 => by rw [hbit i (by omega)]; simp; omega)
  rw [show 256 = K + j + 1 + (255 - (K + j)) by omega, h3, h2]
/-- the sum of those places of all -/
def foldS (z : Nat) (all : List (List UInt8)) (l : List Nat) : List UInt8 := l.foldl (fun a i => xorL a (all.getD i [])) (List.replicate z 0)
theorem foldS_snoc (z : Nat) (all : List (List UInt8)) (l : List Nat) (i : Nat) : foldS z all (l ++ [i]) = xorL (foldS z all l) (all.getD i []) := by simp [foldS]
theorem foldS_length (z : Nat) (all : List (List UInt8)) (l : List Nat) : (foldS z all l).length = z := by
  have : ∀ (l : List Nat) (a : List UInt8), (l.foldl (fun a i => xorL a (all.getD i [])) a).length = a.length := by
    intro l
    induction l with
    | nil => intro a; rfl
    | cons x t ih => intro a; show (t.foldl _ (xorL a _)).length = _; rw [ih, xorL_length]
  unfold foldS
  rw [this]; simp
theorem foldS_sumR (X z : Nat) (ls all : List (List UInt8)) : ∀ k, (∀ i, i < k → all.getD i [] = ls.getD i []) → foldS z all (L X k) = sumR X z ls k
  | 0, _ => by simp [foldS, L, sumR]
  | k + 1, h => by
    have ih := foldS_sumR X z ls all k (fun i hi => h i (by omega))
    rw [L_step]
    unfold sumR
    by_cases e : X.testBit k = true
    · rw [if_pos e, if_pos e, foldS_snoc, ih, h k (by omega)]
    · rw [if_neg e, if_neg e, List.append_nil, ih]
/-- THE SUM OF ALL PIECES OF A ROW IS NOTHING -/
theorem par_nothing (s K P Z j : Nat) (ls : List (List UInt8)) (hl : ls.length = K) (hj : j < P) (h : K + j < 256) : foldS Z (allP s K Z ls P) (L (parJ s K j) 256) = List.replicate Z 0 := by
  have h1 : ∀ i, i < K → (allP s K Z ls P).getD i [] = ls.getD i [] := fun i hi => by
    unfold allP
    rw [List.getD_eq_getElem?_getD, List.getD_eq_getElem?_getD, List.getElem?_append_left (by omega)]
  have h2 : (allP s K Z ls P).getD (K + j) [] = sumR (parJ s K j) Z ls K := by
    unfold allP
    rw [List.getD_eq_getElem?_getD, List.getElem?_append_right (by omega), hl, show K + j - K = j by omega]
    simp [hj]
  rw [Ls_par s K j h, foldS_snoc, foldS_sumR _ _ ls _ K h1, h2, xorL_self, sumR_length]
end Go.Proofs.YtpmmolamdlcmnaaGreatDoor.Pc
namespace Go.Proofs.YtpmmolamdlcmnaaGreatDoor.Dc
open Go.RowKit
open VecM RdM Vc Sp Pc El Cd
theorem ext_z {a b : List UInt8} {Z : Nat} (ha : a.length = Z) (hb : b.length = Z) (h : ∀ j, j < Z → a.getD j 0 = b.getD j 0) : a = b := by
  apply List.ext_getElem (by rw [ha, hb])
  intro j h1 h2
  have := h j (by omega)
  simpa [List.getD, h1, h2] using this
theorem sumR_bits (z : Nat) (ls : List (List UInt8)) (X Y : Nat) (j : Nat) (hj : j < z) : ∀ k, (sumR (X ^^^ Y) z ls k).getD j 0 = (sumR X z ls k).getD j 0 ^^^ (sumR Y z ls k).getD j 0
  | 0 => by simp [sumR, List.getD, hj]
  | k + 1 => by
    have ih := sumR_bits z ls X Y j hj k
    unfold sumR
    rw [Nat.testBit_xor]
    cases hx : X.testBit k <;> cases hy : Y.testBit k
    · simpa using ih
    · simp only [Bool.false_xor, if_true, Bool.false_eq_true, if_false]
      rw [xorL_at _ _ _ (by rw [sumR_length]; exact hj), xorL_at _ _ _ (by rw [sumR_length]; exact hj), ih, UInt8.xor_assoc]
    · simp only [Bool.xor_false, if_true, Bool.false_eq_true, if_false]
      rw [xorL_at _ _ _ (by rw [sumR_length]; exact hj), xorL_at _ _ _ (by rw [sumR_length]; exact hj), ih, UInt8.xor_assoc, UInt8.xor_comm ((sumR Y z ls k).getD j 0), ← UInt8.xor_assoc]
    · simp only [Bool.xor_self, if_true, Bool.false_eq_true, if_false]
      rw [xorL_at _ _ _ (by rw [sumR_length]; exact hj), xorL_at _ _ _ (by rw [sumR_length]; exact hj), ih, byte_mix, UInt8.xor_self, UInt8.xor_zero]
theorem sumR_add (z : Nat) (ls : List (List UInt8)) (k X Y : Nat) : xorL (sumR X z ls k) (sumR Y z ls k) = sumR (X ^^^ Y) z ls k := by
  apply ext_z (Z := z) (by rw [xorL_length, sumR_length]) (sumR_length _ _ _ _)
  intro j hj
  rw [xorL_at _ _ _ (by rw [sumR_length]; exact hj), sumR_bits z ls X Y j hj k]
theorem sumR_below (z : Nat) (ls : List (List UInt8)) (X : Nat) : ∀ k, (∀ i, i < k → X.testBit i = false) → sumR X z ls k = List.replicate z 0
  | 0, _ => rfl
  | k + 1, h => by
    unfold sumR
    rw [if_neg (by rw [h k (by omega)]; decide)]
    exact sumR_below z ls X k fun i hi => h i (by omega)
theorem xorL_zero_left {a : List UInt8} {z : Nat} (ha : a.length = z) : xorL (List.replicate z 0) a = a := by
  apply ext_z (Z := z) (by rw [xorL_length, List.length_replicate]) ha
  intro j hj
  rw [xorL_at _ _ _ (by rw [List.length_replicate]; exact hj)]
  simp [List.getD, hj]
/-- one bit alone -/
theorem sumR_one {z i k : Nat} {ls : List (List UInt8)} (hi : i < k) (hl : (ls.getD i []).length = z) : sumR (2 ^ i) z ls k = ls.getD i [] := by
  induction k with
  | zero => omega
  | succ k ih =>
    unfold sumR
    by_cases e : i = k
    · subst e
      rw [if_pos (by rw [Nat.testBit_two_pow]; simp), sumR_below z ls _ i (fun q hq => by rw [Nat.testBit_two_pow]; simp; omega), xorL_zero_left hl]
    · rw [if_neg (by rw [Nat.testBit_two_pow]; simp; exact e)]
      exact ih (by omega)
theorem sumR_same {z X : Nat} {ls ms : List (List UInt8)} : ∀ k, (∀ i, i < k → ls.getD i [] = ms.getD i []) → sumR X z ls k = sumR X z ms k
  | 0, _ => rfl
  | k + 1, h => by
    unfold sumR
    rw [sumR_same k fun i hi => h i (by omega), h k (by omega)]
theorem sumR_stop {z X k : Nat} {ls : List (List UInt8)} : ∀ m, (∀ i, k ≤ i → i < k + m → X.testBit i = false) → sumR X z ls (k + m) = sumR X z ls k
  | 0, _ => rfl
  | m + 1, h => by
    have e : sumR X z ls (k + (m + 1)) = if X.testBit (k + m) then xorL (sumR X z ls (k + m)) (ls.getD (k + m) []) else sumR X z ls (k + m) := rfl
    rw [e, if_neg (by rw [h (k + m) (by omega) (by omega)]; decide)]
    exact sumR_stop m fun i h1 h2 => h i h1 (by omega)
/-- what the bits say of the image: the sum of its pieces -/
def dataX (s K P Z : Nat) (img : List UInt8) (X : Nat) : List UInt8 := sumR X Z (allC s K P Z img) (K + P)
theorem dataX_length (s K P Z : Nat) (img : List UInt8) (X : Nat) : (dataX s K P Z img X).length = Z := sumR_length _ _ _ _
theorem dataX_add (s K P Z : Nat) (img : List UInt8) (X Y : Nat) : xorL (dataX s K P Z img X) (dataX s K P Z img Y) = dataX s K P Z img (X ^^^ Y) := sumR_add _ _ _ _ _
theorem dataX_one {s K P Z i : Nat} {img : List UInt8} (h : i < K + P) : dataX s K P Z img (2 ^ i) = (allC s K P Z img).getD i [] := sumR_one h (allC_zi h)
theorem parJ_bit (s K j i : Nat) (hi : K ≤ i) : (parJ s K j).testBit i = decide (K + j = i) := by
  unfold parJ
  rw [parX_bit, if_neg (by omega)]
theorem parJ_lt {s K P j : Nat} (hj : j < P) : parJ s K j < 2 ^ (K + P) := by
  apply Nat.lt_pow_two_of_testBit
  intro i hi
  rw [parJ_bit s K j i (by omega)]
  simp; omega
theorem allC_par {s K P Z j : Nat} {img : List UInt8} (hj : j < P) : (allC s K P Z img).getD (K + j) [] = sumR (parJ s K j) Z (pcsL img Z K) K := by
  unfold allC allP
  rw [List.getD_eq_getElem?_getD, List.getElem?_append_right (by rw [pcsL_length]; omega), pcsL_length, Nat.add_sub_cancel_left]
  simp [hj]
/-- a row of parity says nothing -/
theorem dataX_par {s K P Z j : Nat} {img : List UInt8} (hj : j < P) : dataX s K P Z img (parJ s K j) = List.replicate Z 0 := by
  have e1 : sumR (parJ s K j) Z (allC s K P Z img) K = sumR (parJ s K j) Z (pcsL img Z K) K := sumR_same K fun i hi => by rw [allC_first hi, pcsL_get hi]
  have e2 : sumR (parJ s K j) Z (allC s K P Z img) (K + j) = sumR (parJ s K j) Z (allC s K P Z img) K := sumR_stop j fun i h1 h2 => by rw [parJ_bit s K j i h1]; simp; omega
  have e3 : sumR (parJ s K j) Z (allC s K P Z img) (K + j + 1) = List.replicate Z 0 := by
    unfold sumR
    rw [if_pos (by rw [parJ_bit s K j _ (by omega)]; simp), e2, e1, allC_par hj, xorL_self, sumR_length]
  unfold dataX
  have e4 : K + P = K + j + 1 + (P - j - 1) := by omega
  rw [e4, sumR_stop (P - j - 1) (fun i h1 h2 => by rw [parJ_bit s K j i (by omega)]; simp; omega), e3]
theorem Ls_n {X n : Nat} (hX : X < 2 ^ n) (hn : n ≤ 256) : Ls X = L X n := L_more hX hn
theorem sumF_snoc {l : List (List UInt8)} {x : List UInt8} {Z : Nat} (h0 : l ≠ []) (h : ∀ y ∈ l, y.length = Z) (hx : x.length = Z) : sumF (l ++ [x]) = xorL (sumF l) x := by
  cases l with
  | nil => exact absurd rfl h0
  | cons a t =>
    have ha := h a (by simp)
    rw [List.cons_append, sumF_eq (fun y hy => by
      rcases List.mem_append.1 hy with q | q
      · rw [h y (by simp [q]), ha]
      · rw [List.mem_singleton.1 q, hx, ha]), sumF_eq (fun y hy => by rw [h y (by simp [hy]), ha]), sumTo_snoc]
theorem sumR_list {z X : Nat} {ls : List (List UInt8)} : ∀ k, (∀ i, i < k → (ls.getD i []).length = z) → (L X k ≠ [] → sumF ((L X k).map fun i => ls.getD i []) = sumR X z ls k) ∧ (L X k = [] → sumR X z ls k = List.replicate z 0)
  | 0, _ => ⟨fun h => absurd rfl h, fun _ => rfl⟩
  | k + 1, h => by
    obtain ⟨i1, i2⟩ := sumR_list (z := z) (X := X) (ls := ls) k fun i hi => h i (by omega)
    rw [L_snoc]
    unfold sumR
    cases hb : X.testBit k with
    | false =>
      simp only [Bool.false_eq_true, if_false, List.append_nil]
      exact ⟨i1, i2⟩
    | true =>
      simp only [if_true]
      refine ⟨fun _ => ?_, fun e => absurd e (by simp)⟩
      rw [List.map_append, List.map_singleton]
      by_cases e : L X k = []
      · rw [e, i2 e, xorL_zero_left (h k (by omega))]
        show sumF [_] = _
        rw [sumF_eq (by simp)]
        rfl
      · rw [sumF_snoc (Z := z) (by simpa using e) (fun y hy => by
          obtain ⟨i, hi, rfl⟩ := List.mem_map.1 hy
          exact h i (by have := (mem_L X k i).1 hi; omega)) (h k (by omega)), i1 e]
/-- a symbol's data are what its bits say -/
theorem dataX_sym {s K P Z id : Nat} {img : List UInt8} (hK : 1 ≤ K) (hn : K + P ≤ 80) : dataX s K P Z img (spX s K P id) = symX s K P Z img id := by
  have hne : L (spX s K P id) (K + P) ≠ [] := by
    rw [← Ls_n (spX_lt (s := s) (id := id)) (by omega)]
    have h := (spX_count (s := s) (id := id) hK hn).1
    intro e; rw [e] at h; simp at h
  unfold symX dataX
  rw [Ls_n (spX_lt (s := s) (id := id)) (by omega), (sumR_list (K + P) fun i hi => allC_zi hi).1 hne]
/-- the rows that a decoder has at first -/
def parP (s K P : Nat) (X : Nat) : Prop := ∃ j, j < P ∧ X = parJ s K j
theorem matR_got {s K P Z : Nat} (hn : K + P ≤ 80) : ∀ k, k ≤ P → Got (K + P) Z (matR s K P Z k) (parP s K k)
  | 0, _ => (Got.start (K + P) Z).congr fun X => ⟨fun h => h.elim, fun ⟨j, hj, _⟩ => absurd hj (Nat.not_lt_zero j)⟩
  | k + 1, hk => by
    refine ((matR_got hn k (by omega)).add (by omega) (parJ_lt (by omega)) (l := List.replicate Z 0) (by simp)).congr fun X => ⟨?_, ?_⟩
    · rintro (⟨j, hj, e⟩ | e)
      · exact ⟨j, by omega, e⟩
      · exact ⟨k, by omega, e⟩
    · rintro ⟨j, hj, e⟩
      by_cases h : j < k
      · exact .inl ⟨j, h, e⟩
      · exact .inr (by rw [e]; congr 1; omega)
theorem matR_data {s K P Z : Nat} {img : List UInt8} (hn : K + P ≤ 80) : ∀ k, k ≤ P → DataOf (dataX s K P Z img) (matR s K P Z k)
  | 0, _ => DataOf.start _ _
  | k + 1, hk => by
    have h := (matR_data (s := s) (Z := Z) (img := img) hn k (by omega)).add (dataX_add s K P Z img) (matR_got hn k (by omega)).inv (by omega) (parJ_lt (s := s) (K := K) (P := P) (j := k) (by omega)) (dataX_length _ _ _ _ _ _)
    rw [dataX_par (by omega)] at h
    exact h
theorem matR_rank {s K P Z : Nat} (hn : K + P ≤ 80) : ∀ k, k ≤ P → rankM (matR s K P Z k) = k
  | 0, _ => by show rankM (List.replicate (K + P) none) = 0; simp [rankM]
  | k + 1, hk => by
    have hg := matR_got (s := s) (Z := Z) hn k (by omega)
    have hnew : (addMx (K + P) (matR s K P Z k) (parJ s K k) (List.replicate Z 0)).2 = true := by
      rw [hg.says]
      intro hs
      have := span_bit (j := K + k) (fun X hX => by
        obtain ⟨j, hj, e⟩ := hX
        rw [e, parJ_bit s K j _ (by omega)]
        simp; omega) hs
      rw [parJ_bit s K k _ (by omega)] at this
      simp at this
    have hr := rank_add hg.inv (by omega) (parJ_lt (s := s) (K := K) (P := P) (j := k) (by omega)) (l := List.replicate Z 0) (by simp)
    show rankM (addMx (K + P) (matR s K P Z k) (parJ s K k) (List.replicate Z 0)).1 = k + 1
    rw [hr, hnew, matR_rank hn k (by omega)]
    rfl
/-- where all pieces of the image are known, all is -/
theorem got_full {s K P Z : Nat} {M : Mx} {Q : Nat → Prop} (h : Got (K + P) Z M Q) (hpar : ∀ j, j < P → Q (parJ s K j)) (hk : ∀ i, i < K → Q (2 ^ i)) : rankM M = K + P := by
  have h1 : ∀ i, i < K → Ker (K + P) M (2 ^ i) := fun i hi => (h.ker _).2 (.one (hk i hi))
  have hsum : ∀ (X : Nat) k, k ≤ K → (∀ i, k ≤ i → X.testBit i = false) → Ker (K + P) M X := by
    intro X k
    induction k generalizing X with
    | zero =>
      intro _ hb
      have : X = 0 := Nat.eq_of_testBit_eq fun i => by rw [hb i (Nat.zero_le _), Nat.zero_testBit]
      rw [this]; exact ker_zero
    | succ k ih =>
      intro hk2 hb
      by_cases e : X.testBit k = true
      · have h2 := ih (X ^^^ 2 ^ k) (by omega) (fun i hi => by
          rw [Nat.testBit_xor, Nat.testBit_two_pow]
          by_cases e2 : k = i
          · subst e2; simp [e]
          · rw [hb i (by omega)]; simp [e2])
        have h3 := ker_xor h2 (h1 k (by omega))
        rwa [Nat.xor_assoc, Nat.xor_self, Nat.xor_zero] at h3
      · refine ih X (by omega) fun i hi => ?_
        by_cases e2 : k = i
        · subst e2; simpa using e
        · exact hb i (by omega)
  refine full_of_units h.inv fun i hi => ?_
  by_cases hik : i < K
  · exact h1 i hik
  · have hp : Ker (K + P) M (parJ s K (i - K)) := (h.ker _).2 (.one (hpar (i - K) (by omega)))
    have h2 := hsum (parJ s K (i - K) ^^^ 2 ^ i) K (Nat.le_refl _) (fun q hq => by
      rw [Nat.testBit_xor, Nat.testBit_two_pow, parJ_bit s K _ q hq]
      have : K + (i - K) = i := by omega
      rw [this]; simp)
    have h3 := ker_xor hp h2
    rwa [← Nat.xor_assoc, Nat.xor_self, Nat.zero_xor] at h3
/-- solved, it is the image -/
theorem full_img {s K P Z : Nat} {M : Mx} {img : List UInt8} (h : Inv (K + P) Z M) (hf : rankM M = K + P) (hd : DataOf (dataX s K P Z img) M) : (solM M).take K = pcsL img Z K := by
  rw [solM_full h hf hd]
  apply List.ext_getElem?
  intro i
  by_cases hi : i < K
  · rw [List.getElem?_take_of_lt hi]
    have hi2 : i < K + P := by omega
    simp only [List.getElem?_map, List.getElem?_range hi2, Option.map_some]
    rw [dataX_one hi2, allC_first hi]
    simp [pcsL, hi]
  · rw [List.getElem?_eq_none (by simp; omega), List.getElem?_eq_none (by rw [pcsL_length]; omega)]
theorem joinLs_img {Z K : Nat} {img : List UInt8} (h1 : 1 ≤ img.length) (h2 : img.length ≤ 512) (h : img.length ≤ K * Z) : joinLs (pcsL img Z K) (img.length : Int) = img := by
  have e := pcsL_flat h
  have hl : img.length ≤ ((pcsL img Z K).flatMap fun l => l).length := by
    have := congrArg List.length e
    rw [List.length_take] at this
    have h3 : ((pcsL img Z K).flatMap id).length = ((pcsL img Z K).flatMap fun l => l).length := rfl
    omega
  unfold joinLs
  rw [if_neg (by omega), if_neg (by omega), Int.toNat_natCast]
  exact e
/-- the first i symbols, behind the rows of parity -/
def matU (s K P Z : Nat) (img : List UInt8) : Nat → Mx
  | 0 => matR s K P Z P
  | i + 1 => (addMx (K + P) (matU s K P Z img i) (spX s K P i) (symX s K P Z img i)).1
theorem spX_one {s K P i : Nat} (h : i < K) : spX s K P i = 2 ^ i := by unfold spX; rw [if_pos h]
theorem matU_got {s K P Z : Nat} {img : List UInt8} (hK : 1 ≤ K) (hn : K + P ≤ 80) : ∀ i, i ≤ K → Got (K + P) Z (matU s K P Z img i) (fun X => parP s K P X ∨ ∃ j, j < i ∧ X = 2 ^ j)
  | 0, _ => (matR_got hn P (Nat.le_refl _)).congr fun X => ⟨.inl, fun h => h.elim id fun ⟨j, hj, _⟩ => absurd hj (Nat.not_lt_zero j)⟩
  | i + 1, hi => by
    refine ((matU_got hK hn i (by omega)).add (by omega) (spX_lt (s := s) (id := i)) (l := symX s K P Z img i) (symX_length hK hn)).congr fun X => ⟨?_, ?_⟩
    · rintro ((h | ⟨j, hj, e⟩) | e)
      · exact .inl h
      · exact .inr ⟨j, by omega, e⟩
      · exact .inr ⟨i, by omega, by rw [e, spX_one (by omega)]⟩
    · rintro (h | ⟨j, hj, e⟩)
      · exact .inl (.inl h)
      · by_cases h : j < i
        · exact .inl (.inr ⟨j, h, e⟩)
        · refine .inr ?_
          rw [e, spX_one (by omega), show j = i by omega]
theorem matU_data {s K P Z : Nat} {img : List UInt8} (hK : 1 ≤ K) (hn : K + P ≤ 80) : ∀ i, i ≤ K → DataOf (dataX s K P Z img) (matU s K P Z img i)
  | 0, _ => matR_data hn P (Nat.le_refl _)
  | i + 1, hi => by
    have h := (matU_data (s := s) (Z := Z) (img := img) hK hn i (by omega)).add (dataX_add s K P Z img) (matU_got hK hn i (by omega)).inv (by omega) (spX_lt (s := s) (id := i)) (dataX_length _ _ _ _ _ _)
    rw [dataX_sym hK hn] at h
    exact h
theorem matU_step {s K P Z : Nat} {img : List UInt8} (hK : 1 ≤ K) (hn : K + P ≤ 80) {i : Nat} (hi : i ≤ K) : rankM (matU s K P Z img (i + 1)) = rankM (matU s K P Z img i) + if (addMx (K + P) (matU s K P Z img i) (spX s K P i) (symX s K P Z img i)).2 then 1 else 0 :=
  rank_add (matU_got hK hn i hi).inv (by omega) (spX_lt (s := s) (id := i)) (symX_length hK hn)
theorem matU_le {s K P Z : Nat} {img : List UInt8} (hK : 1 ≤ K) (hn : K + P ≤ 80) (i : Nat) : ∀ m, i + m ≤ K → rankM (matU s K P Z img (i + m)) ≤ rankM (matU s K P Z img i) + m
  | 0, _ => Nat.le_refl _
  | m + 1, h => by
    have h1 := matU_le (s := s) (Z := Z) (img := img) hK hn i m (by omega)
    have h2 := matU_step (s := s) (Z := Z) (img := img) hK hn (i := i + m) (by omega)
    rw [show i + (m + 1) = i + m + 1 by omega, h2]
    split <;> omega
theorem matU_full {s K P Z : Nat} {img : List UInt8} (hK : 1 ≤ K) (hn : K + P ≤ 80) : rankM (matU s K P Z img K) = K + P :=
  got_full (matU_got hK hn K (Nat.le_refl _)) (fun j hj => .inl ⟨j, hj, rfl⟩) (fun i hi => .inr ⟨i, hi, rfl⟩)
theorem matU_rank {s K P Z : Nat} {img : List UInt8} (hK : 1 ≤ K) (hn : K + P ≤ 80) {i : Nat} (hi : i ≤ K) : rankM (matU s K P Z img i) = P + i := by
  have h0 : rankM (matU s K P Z img 0) = P := matR_rank hn P (Nat.le_refl _)
  have h1 := matU_le (s := s) (Z := Z) (img := img) hK hn 0 i (by omega)
  have h2 := matU_le (s := s) (Z := Z) (img := img) hK hn i (K - i) (by omega)
  rw [show i + (K - i) = K by omega, matU_full hK hn] at h2
  rw [Nat.zero_add, h0] at h1
  omega
/-- each of the first K says something new -/
theorem matU_new {s K P Z : Nat} {img : List UInt8} (hK : 1 ≤ K) (hn : K + P ≤ 80) {i : Nat} (hi : i < K) : (addMx (K + P) (matU s K P Z img i) (spX s K P i) (symX s K P Z img i)).2 = true := by
  have h := matU_step (s := s) (Z := Z) (img := img) hK hn (i := i) (by omega)
  rw [matU_rank hK hn (by omega), matU_rank hK hn (by omega)] at h
  cases hb : (addMx (K + P) (matU s K P Z img i) (spX s K P i) (symX s K P Z img i)).2 with
  | true => rfl
  | false => rw [hb] at h; simp only [Bool.false_eq_true, if_false] at h; omega
theorem count_more {n Z K : Nat} (hc : BlkM.count (n : Int) (Z : Int) = K) (hK : 1 ≤ K) : BlkM.count ((n : Int) + (Z : Int)) (Z : Int) ≠ K := by
  have h := count_facts (n : Int) (Z : Int) K hc (by omega)
  intro e
  have h2 := count_facts ((n : Int) + (Z : Int)) (Z : Int) K e (by omega)
  have h3 := h.2.2.2.2.2.2
  have h4 := h2.2.2.2.2.2.1
  have h5 : ((K : Int) - 1) * (Z : Int) = (K : Int) * (Z : Int) - (Z : Int) := by rw [Int.sub_mul, Int.one_mul]
  rw [h5] at h3
  omega
theorem count_none (Z : Int) {K : Nat} (hK : 1 ≤ K) : BlkM.count 0 Z ≠ K := by
  unfold BlkM.count
  rw [if_pos (by omega)]
  omega
end Go.Proofs.YtpmmolamdlcmnaaGreatDoor.Dc
namespace Go.Proofs.YtpmmolamdlcmnaaGreatDoor.Cd
open Go.RowKit
open SoM
theorem cells_set_other {w : World} {g o p : Nat} {cs : Array Value} {T : TypeId} {v u : Value} (h : w.heap[g]? = some (.cells cs T (0, 0))) (hp : cs[p]? = some u) (hne : o ≠ p) : ∃ cs2, (w.setCell ⟨g, o, none⟩ v).heap[g]? = some (.cells cs2 T (0, 0)) ∧ cs2[p]? = some u := by
  refine ⟨_, heap_setCell_same w g o _ _ v h, ?_⟩
  simp [hne, hp]
theorem cell_at {w : World} {g p : Nat} {cs : Array Value} {T : TypeId} {u : Value} (h : w.heap[g]? = some (.cells cs T (0, 0))) (hp : cs[p]? = some u) : w.cell? ⟨g, p, none⟩ = some u := by
  rw [cell_of_row w g _ _ T (0, 0) h]; exact hp
/-- the struct, its Once being done -/
def Locked (g o : Nat) (T : TypeId) (w : World) : Prop := ∃ cs, w.heap[g]? = some (.cells cs T (0, 0)) ∧ cs[o]? = some (.int .u32 0) ∧ cs[o + 1]? = some (.int .i32 1)
set_option maxRecDepth 100000 in
set_option maxHeartbeats 3200000 in
theorem slow_gen (g o : Nat) (T : TypeId) (cs : Array Value) (c : Value) (R : World → Prop) (w : World) (h : w.heap[g]? = some (.cells cs T (0, 0))) (hd : cs[o]? = some (.int .u32 0)) (hm : cs[o + 1]? = some (.int .i32 0))
    (HF : Calls Tryz.prog 73 #[c] (w.setCell ⟨g, o + 1, none⟩ (.int .i32 1)) fun e w2 => e = .returned (.tuple #[]) ∧ Hid (R w2) ∧ Hid (Locked g o T w2)) :
    Calls Tryz.prog 54 #[.pointer (some ⟨g, o, none⟩), .func (.func 73) #[] #[c]] w fun e w' => e = .returned (.tuple #[]) ∧ ∃ w2, Hid (R w2) ∧ w' = (w2.drew.setCell ⟨g, o, none⟩ (.int .u32 1)).setCell ⟨g, o + 1, none⟩ (.int .i32 0) := by
  have HC := Lib.hid (cell_at h hm)
  have HZ := Lib.hid (frozen_of_row w g (o + 1) _ _ h)
  have HD : Hid ((w.setCell ⟨g, o + 1, none⟩ (.int .i32 1)).cell? ⟨g, o, none⟩ = some (.int .u32 0)) := by
    obtain ⟨cs2, h1, h2⟩ := cells_set_other (o := o + 1) (v := .int .i32 1) h hd (by omega)
    exact cell_at h1 h2
  have HFF := Lib.hid HF
  have hnot : ∀ (x : Bool) (w : World), (Op.unary .not (.bool x)).run Tryz.prog w = .ok (.bool (!x)) w := fun _ _ => rfl
  clear h hd hm HF
  go_enter_defers Tryz.func54, Tryz.ntmps54
  go_wp2_with (first | (go_at_call 77; refine (lock_free ⟨g, o + 1, none⟩ _ HC.out HZ.out).mono ?_; rintro e w' ⟨rfl, rfl⟩) | (go_at_call 53; refine (bload_no _ _ HD.out).mono ?_; rintro e w' ⟨rfl, rfl⟩))
  refine HFF.out.mono ?_
  rintro e w2 ⟨rfl, HR, HL⟩
  clear HC HZ HD HFF
  go_wp2
  obtain ⟨cs2, h2, hd2, hm2⟩ := HL.out
  have h2d : w2.drew.heap[g]? = some (.cells cs2 T (0, 0)) := h2
  obtain ⟨cs3, h3, hm3⟩ := cells_set_other (o := o) (v := .int .u32 1) h2d hm2 (by omega)
  refine leaves_cons (f := 79) (args := #[.pointer (some ⟨g, o, none⟩), .bool true]) (by simp) (by simp [go_sem]) ?_
  refine (store_deferred ⟨g, o, none⟩ (.int .u32 0) .returning _ (cell_at h2 hd2) (frozen_of_row _ g o _ _ h2)).mono ?_
  rintro e u' w'' ⟨rfl, rfl, rfl⟩
  refine leaves_cons (f := 78) (args := #[.pointer (some ⟨g, o + 1, none⟩)]) (by simp [settle]) (by simp [go_sem]) ?_
  refine (unlock_deferred ⟨g, o + 1, none⟩ _ _ (cell_at h3 hm3) (frozen_of_row _ g (o + 1) _ _ h3)).mono ?_
  rintro e u' w'' ⟨rfl, rfl, rfl⟩
  simp [Leaves, settle, results, Tryz.results54]
  exact ⟨w2, HR, rfl⟩
set_option maxRecDepth 100000 in
theorem do_gen (g o : Nat) (T : TypeId) (cs : Array Value) (c : Value) (R : World → Prop) (w : World) (h : w.heap[g]? = some (.cells cs T (0, 0))) (hd : cs[o]? = some (.int .u32 0)) (hm : cs[o + 1]? = some (.int .i32 0))
    (HF : Calls Tryz.prog 73 #[c] (w.setCell ⟨g, o + 1, none⟩ (.int .i32 1)) fun e w2 => e = .returned (.tuple #[]) ∧ Hid (R w2) ∧ Hid (Locked g o T w2)) :
    Calls Tryz.prog 26 #[.pointer (some ⟨g, o, none⟩), .func (.func 73) #[] #[c]] w fun e w' => e = .returned (.tuple #[]) ∧ ∃ w2, Hid (R w2) ∧ w' = (w2.drew.setCell ⟨g, o, none⟩ (.int .u32 1)).setCell ⟨g, o + 1, none⟩ (.int .i32 0) := by
  have HD := Lib.hid (cell_at h hd)
  have HS := Lib.hid (slow_gen g o T cs c R w h hd hm HF)
  have hnot : ∀ (x : Bool) (w : World), (Op.unary .not (.bool x)).run Tryz.prog w = .ok (.bool (!x)) w := fun _ _ => rfl
  clear h hd hm HF
  go_enter Tryz.func26, Tryz.ntmps26
  go_wp2_with (go_at_call 53; refine (bload_no _ _ HD.out).mono ?_; rintro e w' ⟨rfl, rfl⟩)
  refine HS.out.mono ?_
  rintro e w3 ⟨rfl, w2, HR, rfl⟩
  go_wp2
  go_end0
  exact ⟨rfl, w2, HR, rfl⟩
set_option maxRecDepth 100000 in
theorem do_done_gen (g o : Nat) (T : TypeId) (cs : Array Value) (f : Value) (w : World) (h : w.heap[g]? = some (.cells cs T (0, 0))) (hd : cs[o]? = some (.int .u32 1)) :
    Calls Tryz.prog 26 #[.pointer (some ⟨g, o, none⟩), f] w (fun e w' => e = .returned (.tuple #[]) ∧ w = w') := by
  have HD := Lib.hid (cell_at h hd)
  have hnot : ∀ (x : Bool) (w : World), (Op.unary .not (.bool x)).run Tryz.prog w = .ok (.bool (!x)) w := fun _ _ => rfl
  clear h hd
  go_enter Tryz.func26, Tryz.ntmps26
  go_wp2_with (go_at_call 53; refine (bload_yes _ _ HD.out).mono ?_; rintro e w' ⟨rfl, rfl⟩)
  go_end0
  exact ⟨rfl, rfl⟩
end Go.Proofs.YtpmmolamdlcmnaaGreatDoor.Cd
