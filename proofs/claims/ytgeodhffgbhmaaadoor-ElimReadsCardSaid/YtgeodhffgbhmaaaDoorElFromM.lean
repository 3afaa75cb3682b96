/- elim.From, as data: what is written is read as it was. -/
import Derived.Test.YtgeodhffgbhmaaaDoorElLin
import Derived.Test.YtgeodhffgbhmaaaDoorVecBag
namespace Go.Proofs.YtgeodhffgbhmaaaDoor.El
open Go.RowKit
open VecM Vc
instance fitsDec (n : Nat) (l : List UInt8) : Decidable (fits n l) := by unfold fits; infer_instance
/-- all rows that stand in b, added, as long as there is fuel -/
def addAllM (n z : Nat) : Nat → Mx → List UInt8 → Option Mx
  | 0, M, b => if b.length = 0 then some M else none
  | k + 1, M, b =>
    if b.length = 0 then some M
    else if b.length < bw n + z then none
    else if fits n (b.take (bw n)) then
      if (addMx n M (frN (b.take (bw n)) (bw n)) ((b.drop (bw n)).take z)).2 = true then addAllM n z k (addMx n M (frN (b.take (bw n)) (bw n)) ((b.drop (bw n)).take z)).1 (b.drop (bw n + z)) else none
    else none
theorem addAll_zero (n z k : Nat) (M : Mx) {b : List UInt8} (h : b.length = 0) : addAllM n z k M b = some M := by
  cases k with
  | zero => unfold addAllM; rw [if_pos h]
  | succ k => unfold addAllM; rw [if_pos h]
theorem addAll_few (n z k : Nat) (M : Mx) {b : List UInt8} (h0 : b.length ≠ 0) (h : b.length < bw n + z) : addAllM n z (k + 1) M b = none := by
  rw [addAllM, if_neg h0, if_pos h]
theorem addAll_unfit (n z k : Nat) (M : Mx) {b : List UInt8} (h0 : b.length ≠ 0) (h : ¬ b.length < bw n + z) (hf : ¬ fits n (b.take (bw n))) : addAllM n z (k + 1) M b = none := by
  rw [addAllM, if_neg h0, if_neg h, if_neg hf]
theorem addAll_old (n z k : Nat) (M : Mx) {b : List UInt8} (h0 : b.length ≠ 0) (h : ¬ b.length < bw n + z) (hf : fits n (b.take (bw n))) (ha : (addMx n M (frN (b.take (bw n)) (bw n)) ((b.drop (bw n)).take z)).2 = false) : addAllM n z (k + 1) M b = none := by
  rw [addAllM, if_neg h0, if_neg h, if_pos hf, if_neg (by rw [ha]; decide)]
theorem addAll_new (n z k : Nat) (M : Mx) {b : List UInt8} (h0 : b.length ≠ 0) (h : ¬ b.length < bw n + z) (hf : fits n (b.take (bw n))) (ha : (addMx n M (frN (b.take (bw n)) (bw n)) ((b.drop (bw n)).take z)).2 = true) : addAllM n z (k + 1) M b = addAllM n z k (addMx n M (frN (b.take (bw n)) (bw n)) ((b.drop (bw n)).take z)).1 (b.drop (bw n + z)) := by
  rw [addAllM, if_neg h0, if_neg h, if_pos hf, if_pos ha]
/-- the matrix that has these bytes, if there is one -/
def fromM (n z : Nat) (b : List UInt8) : Option Mx := match addAllM n z b.length (List.replicate n none) (b.drop 4) with
  | none => none
  | some M => if bytesM n z M = b then some M else none
/-- the first k rows of a matrix -/
def upTo (n : Nat) (M : Mx) (k : Nat) : Mx := M.take k ++ List.replicate (n - k) none
theorem upTo_get {n k : Nat} {M : Mx} (hl : M.length = n) (hk : k ≤ n) (i : Nat) : (upTo n M k)[i]? = if i < k then M[i]? else if i < n then some none else none := by
  unfold upTo
  by_cases h : i < k
  · rw [if_pos h, List.getElem?_append_left (by rw [List.length_take]; omega), List.getElem?_take, if_pos h]
  · rw [if_neg h, List.getElem?_append_right (by rw [List.length_take]; omega), List.length_take, List.getElem?_replicate]
    rw [show min k M.length = k by omega]
    by_cases h2 : i < n
    · rw [if_pos h2, if_pos (by omega)]
    · rw [if_neg h2, if_neg (by omega)]
theorem upTo_len {n k : Nat} {M : Mx} (hl : M.length = n) (hk : k ≤ n) : (upTo n M k).length = n := by
  unfold upTo
  rw [List.length_append, List.length_take, List.length_replicate]; omega
theorem upTo_row {n k i : Nat} {M : Mx} {s : Nat × List UInt8} (hl : M.length = n) (hk : k ≤ n) (h : (upTo n M k)[i]? = some (some s)) : i < k ∧ M[i]? = some (some s) := by
  rw [upTo_get hl hk] at h
  by_cases h1 : i < k
  · rw [if_pos h1] at h; exact ⟨h1, h⟩
  · rw [if_neg h1] at h
    split at h <;> cases h
theorem upTo_none {n k : Nat} {M : Mx} (hl : M.length = n) (hk : k < n) (h : M[k]? = some none) : upTo n M k = upTo n M (k + 1) := by
  apply List.ext_getElem?
  intro i
  rw [upTo_get hl (by omega), upTo_get hl (by omega)]
  by_cases h1 : i = k
  · subst h1; rw [if_neg (by omega), if_pos hk, if_pos (by omega), h]
  · by_cases h2 : i < k
    · rw [if_pos h2, if_pos (by omega)]
    · rw [if_neg h2, if_neg (show ¬ i < k + 1 by omega)]
theorem add_row {n z k : Nat} {M : Mx} {r : Nat × List UInt8} (h : Inv n z M) (hn : n ≤ 256) (hr : M[k]? = some (some r)) : addMx n (upTo n M k) r.1 r.2 = (upTo n M (k + 1), true) := by
  have hk : k < n := by rw [← h.len]; exact (List.getElem?_eq_some_iff.1 hr).1
  have hred : ∀ j, redM (upTo n M k) r.1 r.2 j = (r.1, r.2) := by
    intro j
    induction j with
    | zero => rfl
    | succ j ih =>
      cases hm : (upTo n M k).getD j none with
      | none => rw [redM_none hm]; exact ih
      | some s =>
        obtain ⟨hj, hs⟩ := upTo_row h.len (by omega) (getD_getM hm)
        rw [redM_some hm, ih, if_neg (by rw [h.no k j r s hr hs (by omega)]; decide)]
  have h0 : r.1 ≠ 0 := fun e => by
    have := h.bit k r hr
    rw [e] at this; simp at this
  unfold addMx
  rw [hred, if_neg h0]
  dsimp only
  rw [lowb_at (by omega) (h.bit k r hr) (h.low k r hr)]
  congr 1
  apply List.ext_getElem?
  intro i
  unfold addM
  rw [upTo_get h.len (show k + 1 ≤ n by omega)]
  by_cases hik : i = k
  · subst hik
    rw [if_pos (by omega), hr, List.getElem?_set_self (by rw [List.length_map, upTo_len h.len (by omega)]; exact hk)]
  · rw [List.getElem?_set_ne (Ne.symm hik), List.getElem?_map, upTo_get h.len (by omega)]
    by_cases h1 : i < k
    · rw [if_pos h1, if_pos (by omega)]
      cases hM : M[i]? with
      | none => rfl
      | some o =>
        cases o with
        | none => rfl
        | some s => simp [chgD, h.no i k s r hM hr (by omega)]
    · rw [if_neg h1, if_neg (show ¬ i < k + 1 by omega)]
      by_cases h2 : i < n
      · rw [if_pos h2]; rfl
      · rw [if_neg h2]; rfl
/-- the rows of a reduced matrix, added in their order, are the matrix -/
theorem addAll_rows {n z : Nat} {M : Mx} (h : Inv n z M) (hn : n ≤ 256) (hz : 1 ≤ z) : ∀ (j k f : Nat), k + j = n → ((M.drop k).flatMap (rowB n)).length ≤ f → addAllM n z f (upTo n M k) ((M.drop k).flatMap (rowB n)) = some M := by
  intro j
  induction j with
  | zero =>
    intro k f hk _
    have e : M.drop k = [] := List.drop_eq_nil_of_le (by rw [h.len]; omega)
    have e2 : upTo n M k = M := by
      unfold upTo
      rw [List.take_of_length_le (by rw [h.len]; omega), show n - k = 0 by omega]; simp
    rw [e, e2]
    exact addAll_zero n z f M rfl
  | succ j ih =>
    intro k f hk hf
    have hkn : k < M.length := by rw [h.len]; omega
    rw [List.drop_eq_getElem_cons hkn, List.flatMap_cons] at hf ⊢
    have hMk : M[k]? = some M[k] := List.getElem?_eq_getElem hkn
    cases hr : M[k] with
    | none =>
      rw [hr] at hMk hf
      rw [upTo_none h.len (by omega) hMk]
      show addAllM n z f _ ([] ++ _) = _
      rw [List.nil_append]
      exact ih (k + 1) f (by omega) (by rw [List.length_append] at hf; omega)
    | some r =>
      rw [hr] at hMk hf
      have hX := h.lt k r hMk
      have hzl := h.z k r hMk
      have e1 : rowB n (some r) ++ (M.drop (k + 1)).flatMap (rowB n) = bl r.1 n ++ (r.2 ++ (M.drop (k + 1)).flatMap (rowB n)) := by
        show (bl r.1 n ++ r.2) ++ _ = _
        rw [List.append_assoc]
      rw [e1] at hf ⊢
      obtain ⟨rest, hrest⟩ : ∃ rest, (M.drop (k + 1)).flatMap (rowB n) = rest := ⟨_, rfl⟩
      rw [hrest] at hf ⊢
      have hbl := bl_length r.1 n
      have hl : (bl r.1 n ++ (r.2 ++ rest)).length = bw n + (z + rest.length) := by rw [List.length_append, List.length_append, hbl, hzl]
      rw [hl] at hf
      obtain ⟨f, rfl⟩ : ∃ f', f = f' + 1 := ⟨f - 1, by omega⟩
      have t1 : (bl r.1 n ++ (r.2 ++ rest)).take (bw n) = bl r.1 n := by rw [List.take_append_of_le_length (by omega), List.take_of_length_le (by omega)]
      have t2 : (bl r.1 n ++ (r.2 ++ rest)).drop (bw n) = r.2 ++ rest := by rw [List.drop_append_of_le_length (by omega), List.drop_eq_nil_of_le (by omega)]; rfl
      have t3 : (r.2 ++ rest).take z = r.2 := by rw [List.take_append_of_le_length (by omega), List.take_of_length_le (by omega)]
      have t4 : (bl r.1 n ++ (r.2 ++ rest)).drop (bw n + z) = rest := by
        rw [← List.drop_drop, t2, List.drop_append_of_le_length (by omega), List.drop_eq_nil_of_le (by omega)]; rfl
      have ha := add_row h hn hMk
      rw [addAll_new n z f _ (by rw [hl]; omega) (by rw [hl]; omega) (by rw [t1]; exact fits_bl hX) (by rw [t1, t2, t3, frN_bl hX, ha]), t1, t2, t3, t4, frN_bl hX, ha]
      have h4 := ih (k + 1) f (by omega) (by rw [hrest]; omega)
      rw [hrest] at h4
      exact h4
theorem bytesM_drop (n z : Nat) (M : Mx) : (bytesM n z M).drop 4 = (M.take n).flatMap (rowB n) := rfl
theorem bytesM_len4 (n z : Nat) (M : Mx) : 4 ≤ (bytesM n z M).length := by
  unfold bytesM bytesTo
  rw [List.length_append]
  have : (hdr n z (rankM M)).length = 4 := rfl
  omega
/-- what is written is read as it was -/
theorem from_bytes {n z : Nat} {M : Mx} (h : Inv n z M) (hn : n ≤ 256) (hz : 1 ≤ z) : fromM n z (bytesM n z M) = some M := by
  have e : addAllM n z (bytesM n z M).length (List.replicate n none) ((bytesM n z M).drop 4) = some M := by
    have ht : M.take n = M := List.take_of_length_le (Nat.le_of_eq h.len)
    have h3 := congrArg List.length (bytesM_drop n z M)
    rw [List.length_drop, ht] at h3
    have h2 := addAll_rows h hn hz n 0 (bytesM n z M).length (by omega) (by rw [List.drop_zero, ← h3]; exact Nat.sub_le _ _)
    rw [bytesM_drop, ht]
    rw [List.drop_zero] at h2
    exact h2
  unfold fromM
  rw [e]
  exact if_pos rfl
end Go.Proofs.YtgeodhffgbhmaaaDoor.El
