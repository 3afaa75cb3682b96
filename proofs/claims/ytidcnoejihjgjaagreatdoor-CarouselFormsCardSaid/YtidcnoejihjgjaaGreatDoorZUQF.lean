/- frame.begins: by contract, whatever the bytes. -/
import Derived.Test.YtidcnoejihjgjaaGreatDoorZTQF
import Derived.Test.YtidcnoejihjgjaaGreatDoorZAQF
namespace Go.Proofs.YtidcnoejihjgjaaGreatDoor
open Go.RowKit
open FrM (flen inner frame)
def frameAt (l : List UInt8) : Prop := 9 ≤ l.length ∧ flen l ≤ l.length ∧ flen l ≤ 300 ∧ headOk (l.take (flen l)) ∧ isRight ((l.take (flen l)).drop 2)
open Classical in
noncomputable def beg (l : List UInt8) : Nat := if frameAt l then flen l else 0
theorem beg_no {l : List UInt8} (h : ¬ frameAt l) : beg l = 0 := by unfold beg; rw [if_neg h]
theorem beg_yes {l : List UInt8} (h : frameAt l) : beg l = flen l := by unfold beg; rw [if_pos h]
theorem beg_le (l : List UInt8) : beg l ≤ l.length := by
  by_cases h : frameAt l
  · rw [beg_yes h]; exact h.2.1
  · rw [beg_no h]; omega
end Go.Proofs.YtidcnoejihjgjaaGreatDoor
namespace Go.Proofs.YtidcnoejihjgjaaGreatDoor
open Go.RowKit
open FrM (flen inner frame)
inductive Scan : List UInt8 → List (List UInt8) → Nat → Prop
  | done : Scan [] [] 0
  | none {l : List UInt8} {fs : List (List UInt8)} {k : Nat} (hl : 0 < l.length) (hb : beg l = 0) (h : Scan (l.drop 1) fs k) : Scan l fs (k + 1)
  | some {l : List UInt8} {fs : List (List UInt8)} {k : Nat} (hb : 0 < beg l) (h : Scan (l.drop (beg l)) fs k) : Scan l (l.take (beg l) :: fs) k
theorem beg_nil : beg [] = 0 := by have := beg_le []; simpa using this
theorem Scan.uniq {l : List UInt8} {fs : List (List UInt8)} {k : Nat} (h : Scan l fs k) : ∀ {fs' : List (List UInt8)} {k' : Nat}, Scan l fs' k' → fs = fs' ∧ k = k' := by
  induction h with
  | done =>
    intro fs' k' h'
    cases h' with
    | done => exact ⟨rfl, rfl⟩
    | none hl => simp at hl
    | some hb => rw [beg_nil] at hb; omega
  | none hl hb _ ih =>
    intro fs' k' h'
    cases h' with
    | done => simp at hl
    | none _ _ h2 => obtain ⟨e1, e2⟩ := ih h2; exact ⟨e1, by omega⟩
    | some hb2 => omega
  | some hb _ ih =>
    intro fs' k' h'
    cases h' with
    | done => rw [beg_nil] at hb; omega
    | none _ hb2 => omega
    | some _ h2 => obtain ⟨e1, e2⟩ := ih h2; exact ⟨by rw [e1], e2⟩
def Pr (W : World) (base : Nat) (v : Value) (r : BRow) : Prop :=
  ∃ g, r.A = some ⟨g, 0, none⟩ ∧ base ≤ g ∧ g < W.heap.size ∧ v.ownBlock ≠ some g ∧ Row W W.heap.size r.A r.n (bv r.l) ∧ r.n ≤ r.c ∧ r.c ≤ 9223372036854775807
def LW (base : Nat) (W : World) (v : Value) (n : Nat) (es : List BRow) : Prop := W.ownsRow base 22 1 v n (es.map BRow.val) ∧ ∀ r ∈ es, Pr W base v r
theorem row_same {w W : World} {g o n : Nat} {xs : List Value} (hr : Row w w.heap.size (some ⟨g, o, none⟩) n xs) (hb : W.heap[g]? = w.heap[g]?) (hs : w.heap.size ≤ W.heap.size) : Row W W.heap.size (some ⟨g, o, none⟩) n xs := by
  refine ⟨hr.1, fun hn => ?_⟩
  obtain ⟨b, o', e, hb', hc⟩ := hr.2 hn
  injection e with e
  injection e with e1 e2
  subst e1 e2
  refine ⟨g, o, rfl, Nat.lt_of_lt_of_le hb' hs, fun j u hu => ?_⟩
  rw [World.cell?_of_block (w := w) (w' := W) (a := ⟨g, o + j, none⟩) hb]
  exact hc j u hu
theorem LW.below {base n : Nat} {W W' : World} {v : Value} {es : List BRow} (h : LW base W v n es) (hb : Below W.heap.size W W') : LW base W' v n es := by
  refine ⟨own_below h.1 hb, fun r hr => ?_⟩
  obtain ⟨g, a1, a2, a3, a4, a5, a6⟩ := h.2 r hr
  exact ⟨g, a1, a2, Nat.lt_of_lt_of_le a3 hb.size, a4, (a5.below hb).more hb.size, a6⟩
theorem LW.next {base n m c G : Nat} {W w3 : World} {v v' : Value} {es : List BRow} {l : List UInt8} (h : LW base W v n es) (hrow : Row W W.heap.size (some ⟨G, 0, none⟩) m (bv l)) (hG : base ≤ G) (hG2 : G < W.heap.size) (hGv : v.ownBlock ≠ some G) (hmc : m ≤ c) (hc : c ≤ 9223372036854775807)
    (hown : w3.ownsRow base 22 1 v' (n + 1) (es.map BRow.val ++ [.slice (some ⟨G, 0, none⟩) m c])) (hg : W.grownBy w3 v.ownBlock) (hv : v'.ownBlock = v.ownBlock ∨ v'.ownBlock = some W.heap.size) : LW base w3 v' (n + 1) (es ++ [⟨some ⟨G, 0, none⟩, m, c, l⟩]) := by
  have hnv : ∀ g, g < W.heap.size → v.ownBlock ≠ some g → v'.ownBlock ≠ some g := by
    intro g hg1 hg2 e
    rcases hv with h | h
    · exact hg2 (h.symm.trans e)
    · rw [h] at e; injection e with e; omega
  refine ⟨by simpa [BRow.val] using hown, fun r hr => ?_⟩
  rcases List.mem_append.1 hr with hr | hr
  · obtain ⟨g, a1, a2, a3, a4, a5, a6⟩ := h.2 r hr
    refine ⟨g, a1, a2, Nat.lt_of_lt_of_le a3 hg.size, hnv g a3 a4, ?_, a6⟩
    rw [a1] at a5 ⊢
    exact row_same a5 (hg.block g a3 (fun e => a4 e.symm)) hg.size
  · obtain rfl := List.mem_singleton.1 hr
    exact ⟨G, rfl, hG, Nat.lt_of_lt_of_le hG2 hg.size, hnv G hG2 hGv, row_same hrow (hg.block G hG2 (fun e => hGv e.symm)) hg.size, hmc, hc⟩
end Go.Proofs.YtidcnoejihjgjaaGreatDoor
