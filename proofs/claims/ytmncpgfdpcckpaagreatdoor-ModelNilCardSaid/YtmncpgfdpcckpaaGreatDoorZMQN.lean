/- The pieces of an image: plain mathematics. -/
import Derived.Test.YtmncpgfdpcckpaaGreatDoorZLQN
import Derived.Test.YtmncpgfdpcckpaaGreatDoorZDQN
namespace Go.Proofs.YtmncpgfdpcckpaaGreatDoor.Cd
open Go.RowKit
open VecM RdM Vc Sp Pc
def pcsL (img : List UInt8) (Z K : Nat) : List (List UInt8) := (List.range K).map (BlkM.piece img Z)
theorem pcsL_length (img : List UInt8) (Z K : Nat) : (pcsL img Z K).length = K := by simp [pcsL]
theorem pcsL_z {img : List UInt8} {Z K : Nat} : ∀ l ∈ pcsL img Z K, l.length = Z := by
 intro l hl
 obtain ⟨j, _, rfl⟩ := List.mem_map.1 hl
 exact BlkM.piece_length _ _ _
def allC (s K P Z : Nat) (img : List UInt8) : List (List UInt8) := allP s K Z (pcsL img Z K) P
theorem allC_length (s K P Z : Nat) (img : List UInt8) : (allC s K P Z img).length = K + P := by unfold allC; rw [allP_length, pcsL_length]
theorem allC_z {s K P Z : Nat} {img : List UInt8} : ∀ l ∈ allC s K P Z img, l.length = Z := allP_len pcsL_z
theorem getD_mem {α : Type} {l : List α} {i : Nat} {d : α} (h : i < l.length) : l.getD i d ∈ l := by
 rw [List.getD_eq_getElem?_getD, List.getElem?_eq_getElem h]; exact List.getElem_mem h
theorem allC_zi {s K P Z i : Nat} {img : List UInt8} (h : i < K + P) : ((allC s K P Z img).getD i []).length = Z := allC_z _ (getD_mem (by rw [allC_length]; exact h))
end Go.Proofs.YtmncpgfdpcckpaaGreatDoor.Cd
namespace Go.Proofs.YtmncpgfdpcckpaaGreatDoor.Cd
open Go.RowKit
open VecM RdM Vc Sp Pc
def symX (s K P Z : Nat) (img : List UInt8) (id : Nat) : List UInt8 := sumF ((Ls (spX s K P id)).map fun i => (allC s K P Z img).getD i [])
theorem sumF_eq {h : List UInt8} {t : List (List UInt8)} (e : ∀ x ∈ t, x.length = h.length) : sumF (h :: t) = sumTo h t := by
 show (if ∀ x ∈ t, x.length = h.length then sumTo h t else []) = _
 rw [if_pos e]
theorem Ls_lt {s K P id i : Nat} (hi : i ∈ Ls (spX s K P id)) : i < K + P := by
 have h := (mem_L _ _ _).1 hi
 by_cases e : i < K + P
 ·exact e
 ·have h1 : spX s K P id < 2 ^ i := Nat.lt_of_lt_of_le spX_lt (Nat.pow_le_pow_right (by decide) (by omega))
  rw [Nat.testBit_lt_two_pow h1] at h
  exact absurd h.2 (by decide)
theorem sumF_z {l : List (List UInt8)} {Z : Nat} (h0 : l ≠ []) (h : ∀ x ∈ l, x.length = Z) : (sumF l).length = Z := by
 cases l with
 | nil => exact absurd rfl h0
 | cons a t =>
  have ha := h a (by simp)
  rw [sumF_eq (fun x hx => by rw [h x (by simp [hx]), ha]), sumTo_length, ha]
theorem sym_z {s K P Z id : Nat} {img : List UInt8} : ∀ x ∈ (Ls (spX s K P id)).map (fun i => (allC s K P Z img).getD i []), x.length = Z := by
 intro x hx
 obtain ⟨i, hi, rfl⟩ := List.mem_map.1 hx
 exact allC_zi (Ls_lt hi)
theorem sym_ne {s K P Z id : Nat} {img : List UInt8} (hK : 1 ≤ K) (hn : K + P ≤ 80) : (Ls (spX s K P id)).map (fun i => (allC s K P Z img).getD i []) ≠ [] := by
 have h := (spX_count (s := s) (id := id) hK hn).1
 intro e
 have := congrArg List.length e
 simp at this
 rw [this] at h
 simp at h
theorem symX_length {s K P Z id : Nat} {img : List UInt8} (hK : 1 ≤ K) (hn : K + P ≤ 80) : (symX s K P Z img id).length = Z := sumF_z (sym_ne hK hn) sym_z
end Go.Proofs.YtmncpgfdpcckpaaGreatDoor.Cd
