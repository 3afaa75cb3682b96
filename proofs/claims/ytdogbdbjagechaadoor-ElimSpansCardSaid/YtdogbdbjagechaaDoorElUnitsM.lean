/- Rows of one piece each: mathematics. -/
import Derived.Test.YtdogbdbjagechaaDoorElLin
namespace Go.Proofs.YtdogbdbjagechaaDoor.El
open VecM Vc
/-- those rows of one piece that were seen -/
def unitM (n : Nat) (seen : List Bool) (d : Nat → List UInt8) : Mx := (List.range n).map fun i => if seen.getD i false then some (2 ^ i, d i) else none
theorem unitM_get {n i : Nat} {seen : List Bool} {d : Nat → List UInt8} (hi : i < n) : (unitM n seen d)[i]? = some (if seen.getD i false then some (2 ^ i, d i) else none) := by
  unfold unitM
  rw [List.getElem?_map, List.getElem?_range hi]; rfl
theorem unitM_some {n i : Nat} {seen : List Bool} {d : Nat → List UInt8} {r : Nat × List UInt8} (h : (unitM n seen d)[i]? = some (some r)) : i < n ∧ seen.getD i false = true ∧ r = (2 ^ i, d i) := by
  have hi : i < n := by
    have := (List.getElem?_eq_some_iff.1 h).1
    simpa [unitM] using this
  rw [unitM_get hi] at h
  injection h with h
  split at h
  · rename_i hs
    injection h with h
    exact ⟨hi, hs, h.symm⟩
  · cases h
theorem pow_bit (i j : Nat) : (2 ^ i).testBit j = decide (i = j) := Nat.testBit_two_pow
theorem unitM_inv (n z : Nat) (seen : List Bool) (d : Nat → List UInt8) (hd : ∀ i, (d i).length = z) : Inv n z (unitM n seen d) := by
  refine ⟨by simp [unitM], fun i r hr => ?_, fun i r hr => ?_, fun i r hr => ?_, fun i r hr j hj => ?_, fun i j r s hr hs hij => ?_⟩
  all_goals obtain ⟨hi, _, rfl⟩ := unitM_some hr
  · exact Nat.pow_lt_pow_right (by decide) hi
  · exact hd i
  · rw [pow_bit]; simp
  · rw [pow_bit]; simp; omega
  · rw [pow_bit]; simp; exact fun e => hij e.symm
theorem redM_unit {n o : Nat} {seen : List Bool} {d : Nat → List UInt8} (h : seen.getD o false = false) (l : List UInt8) : ∀ k, redM (unitM n seen d) (2 ^ o) l k = (2 ^ o, l)
  | 0 => rfl
  | k + 1 => by
    have ih := redM_unit (n := n) (d := d) h l k
    cases hm : (unitM n seen d).getD k none with
    | none => rw [redM_none hm]; exact ih
    | some r =>
      obtain ⟨_, hs, rfl⟩ := unitM_some (getD_getM hm)
      have hk : o ≠ k := fun e => by subst e; rw [h] at hs; cases hs
      rw [redM_some hm, ih, pow_bit]
      simp [hk]
theorem units_add {n o z : Nat} {seen : List Bool} {d : Nat → List UInt8} (hn : n ≤ 256) (ho : o < n) (hl : seen.length = n) (hd : ∀ i, (d i).length = z) :
    addMx n (unitM n seen d) (2 ^ o) (d o) = (unitM n (seen.set o true) d, !seen.getD o false) := by
  have hinv := unitM_inv n z seen d hd
  cases hs : seen.getD o false with
  | true =>
    have hr : (unitM n seen d)[o]? = some (some (2 ^ o, d o)) := by rw [unitM_get ho, hs]; rfl
    rw [addMx_no ((ker_red hinv _ _).2 (ker_row hinv hr))]
    have e : seen.set o true = seen := by
      apply List.ext_getElem?
      intro i
      rw [List.getElem?_set]
      by_cases h : o = i
      · subst h
        rw [if_pos rfl, if_pos (by omega)]
        rw [List.getD_eq_getElem?_getD] at hs
        rw [List.getElem?_eq_getElem (by omega)] at hs ⊢
        exact congrArg some hs.symm
      · rw [if_neg h]
    rw [e]; rfl
  | false =>
    have hr := redM_unit (n := n) (d := d) hs (d o) n
    have hne : ¬ (2 ^ o : Nat) = 0 := Nat.pos_iff_ne_zero.1 (Nat.two_pow_pos o)
    unfold addMx
    have hlow : lowb (2 ^ o) = o := lowb_at (f := o) (by omega) (by rw [pow_bit]; simp) (fun j hj => by rw [pow_bit]; simp; omega)
    simp only [hr, if_neg hne, hlow]
    refine Prod.ext ?_ rfl
    apply List.ext_getElem?
    intro i
    show (addM (unitM n seen d) (2 ^ o) (d o) o)[i]? = (unitM n (seen.set o true) d)[i]?
    by_cases hi : i < n
    · rw [unitM_get hi]
      by_cases e : i = o
      · subst e
        rw [addM_own (M := unitM n seen d) (by simp [unitM]; exact hi)]
        have : (seen.set i true).getD i false = true := by rw [List.getD_eq_getElem?_getD, List.getElem?_set_self (by omega)]; rfl
        rw [this]; rfl
      · have e2 : (seen.set o true).getD i false = seen.getD i false := by rw [List.getD_eq_getElem?_getD, List.getElem?_set_ne (fun x => e x.symm), List.getD_eq_getElem?_getD]
        rw [e2]
        unfold addM
        rw [List.getElem?_set_ne (fun x => e x.symm), List.getElem?_map, unitM_get hi]
        cases hsi : seen.getD i false with
        | false => rfl
        | true =>
          show some (chgD _ _ _ (some (2 ^ i, d i))) = _
          unfold chgD
          rw [Option.map_some, pow_bit, decide_eq_false e]; rfl
    · rw [List.getElem?_eq_none (by simp [addM, unitM]; omega), List.getElem?_eq_none (by simp [unitM]; omega)]
theorem units_full {n z : Nat} {seen : List Bool} {d : Nat → List UInt8} (hd : ∀ i, (d i).length = z) (hf : rankM (unitM n seen d) = n) : solM (unitM n seen d) = (List.range n).map d := by
  have hinv := unitM_inv n z seen d hd
  apply List.ext_getElem?
  intro i
  unfold solM
  by_cases hi : i < n
  · obtain ⟨r, hr⟩ := (rank_full hinv).1 hf i hi
    obtain ⟨_, _, rfl⟩ := unitM_some hr
    rw [List.getElem?_map, hr, List.getElem?_map, List.getElem?_range hi]; rfl
  · rw [List.getElem?_eq_none (by simp [unitM]; omega), List.getElem?_eq_none (by simp; omega)]
end Go.Proofs.YtdogbdbjagechaaDoor.El
