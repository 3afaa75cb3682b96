/- Which symbols are enough: plain mathematics. -/
import Derived.Test.YtidcnoejihjgjaaGreatDoorZPQ
namespace Go.Proofs.YtidcnoejihjgjaaGreatDoor.Car
open Go.RowKit
open VecM RdM Vc Sp Pc El Cd Dc
variable {s K P Z : Nat} {img : List UInt8}
theorem matF_same {f g : Nat → Nat} : ∀ i, (∀ j, j < i → f j = g j) → matF s K P Z img f i = matF s K P Z img g i
  | 0, _ => rfl
  | i + 1, h => by
    show (addMx (K + P) (matF s K P Z img f i) (spX s K P (f i)) (symX s K P Z img (f i))).1 = (addMx (K + P) (matF s K P Z img g i) (spX s K P (g i)) (symX s K P Z img (g i))).1
    rw [matF_same i (fun j hj => h j (by omega)), h i (by omega)]
theorem rank_up (f : Nat → Nat) (hK : 1 ≤ K) (hn : K + P ≤ 80) (i : Nat) : rankM (matF s K P Z img f i) ≤ rankM (matF s K P Z img f (i + 1)) ∧ rankM (matF s K P Z img f (i + 1)) ≤ rankM (matF s K P Z img f i) + 1 := by
  rw [matF_step f hK hn i]
  split <;> omega
theorem rank_most (f : Nat → Nat) (hK : 1 ≤ K) (hn : K + P ≤ 80) : ∀ i, rankM (matF s K P Z img f i) ≤ P + i
  | 0 => by show rankM (matR s K P Z P) ≤ P + 0; rw [matR_rank hn P (Nat.le_refl _)]; omega
  | i + 1 => by have := rank_most f hK hn i; have := (rank_up (s := s) (Z := Z) (img := img) f hK hn i).2; omega
/-- enough is told by these symbols -/
def en (s K P Z : Nat) (img : List UInt8) (us : List Nat) : Bool := decide (rankM (matF s K P Z img (fun i => us.getD i 0) us.length) = K + P)
theorem en_nil (hK : 1 ≤ K) (hn : K + P ≤ 80) : en s K P Z img [] = false := by
  refine decide_eq_false fun h => ?_
  have := rank_most (s := s) (Z := Z) (img := img) (fun i => ([] : List Nat).getD i 0) hK hn 0
  rw [show ([] : List Nat).length = 0 from rfl] at h
  omega
theorem en_few (hK : 1 ≤ K) (hn : K + P ≤ 80) {us : List Nat} (h : us.length < K) : en s K P Z img us = false := by
  refine decide_eq_false fun e => ?_
  have := rank_most (s := s) (Z := Z) (img := img) (fun i => us.getD i 0) hK hn us.length
  omega
theorem en_all (hK : 1 ≤ K) (hn : K + P ≤ 80) {us : List Nat} (h : ∀ i, i < K → ∃ j, j < us.length ∧ us.getD j 0 = i) : en s K P Z img us = true :=
  decide_eq_true (matF_all _ hK hn _ h)
theorem en_more (hK : 1 ≤ K) (hn : K + P ≤ 80) {us vs : List Nat} {x : Nat} (hv : vs = us ++ [x]) (h : en s K P Z img us = true) : en s K P Z img vs = true := by
  subst hv
  have h1 := of_decide_eq_true h
  refine decide_eq_true ?_
  have e : matF s K P Z img (fun i => (us ++ [x]).getD i 0) us.length = matF s K P Z img (fun i => us.getD i 0) us.length := matF_same _ fun j hj => by
    show (us ++ [x]).getD j 0 = us.getD j 0
    rw [List.getD_eq_getElem?_getD, List.getD_eq_getElem?_getD, List.getElem?_append_left hj]
  have h2 := rank_up (s := s) (Z := Z) (img := img) (fun i => (us ++ [x]).getD i 0) hK hn us.length
  rw [e] at h2
  have h3 := rank_le (matF_got (s := s) (Z := Z) (img := img) (fun i => (us ++ [x]).getD i 0) hK hn (us.length + 1)).inv
  rw [List.length_append, show ([x] : List Nat).length = 1 from rfl]
  omega
theorem aw_yes : en 5 2 1 2 [110, 101, 119, 33] [1, 0] = true := by decide +kernel
theorem aw_no : en 5 2 1 2 [110, 101, 119, 33] [0, 0] = false := by decide +kernel
end Go.Proofs.YtidcnoejihjgjaaGreatDoor.Car
