/- SessionRises: what is newer than a state is newer than each state with less; greater versions of what is newer are newer. -/
import Derived.Test.YtanompoceadjoaaDoorSwAwake
namespace Go.Proofs.YtanompoceadjoaaDoor
open Go.RowKit
theorem wpList_load_rowG {P : Program} {ops : Array Oper} {rest : List Oper} {o : Oper} {a : Act} {w : World} {Q : Exit → Act → World → Prop} (hw : Region.wanted o (yielded ops a.tmps) = true) (ty : TypeId) (x : Operand) (ho : o.op = .load ty x)
    (g : Nat) (hx : a.eval x = .pointer (some ⟨g, 0, none⟩)) (t : TypeId) (cs : Array Value) (fr : Nat × Nat) (d : TypeDesc) (hg : w.heap[g]? = some (.cells cs t fr))
    (hu : P.underlying ty = some d) (hd : (match d with | .struct _ | .array _ _ => true | _ => false) = true) (hi : (P.info? ty).map (·.size) = some cs.size)
    (h : wpList P ops Q rest (a.put o.dst (.agg cs)) w) : wpList P ops Q (o :: rest) a w :=
  wpList_step fun K hK => by simp only [hw, if_true]; exact wp_load_row ty x ho g hx t cs fr d hg hu hd hi (hK _ _ h)
theorem bxAll {w : World} {g : Nat} {t : TypeId} {a0 a1 a2 a3 a4 a5 a6 a7 a8 a9 a10 a11 a12 a13 a14 a15 a16 : Value} (h : w.heap[g]? = some (.cells #[a0, a1, a2, a3, a4, a5, a6, a7, a8, a9, a10, a11, a12, a13, a14, a15, a16] t (0, 0))) :
    w.cell? ⟨g, 0, none⟩ = some a0 ∧ w.cell? ⟨g, 1, none⟩ = some a1 ∧ w.cell? ⟨g, 2, none⟩ = some a2 ∧ w.cell? ⟨g, 3, none⟩ = some a3 ∧ w.cell? ⟨g, 4, none⟩ = some a4 ∧ w.cell? ⟨g, 5, none⟩ = some a5 ∧ w.cell? ⟨g, 6, none⟩ = some a6 ∧ w.cell? ⟨g, 7, none⟩ = some a7 ∧ w.cell? ⟨g, 8, none⟩ = some a8 ∧ w.cell? ⟨g, 9, none⟩ = some a9 ∧ w.cell? ⟨g, 10, none⟩ = some a10 ∧ w.cell? ⟨g, 11, none⟩ = some a11 ∧ w.cell? ⟨g, 12, none⟩ = some a12 ∧ w.cell? ⟨g, 13, none⟩ = some a13 ∧ w.cell? ⟨g, 14, none⟩ = some a14 ∧ w.cell? ⟨g, 15, none⟩ = some a15 ∧ w.cell? ⟨g, 16, none⟩ = some a16 := by
  refine ⟨?_, ?_, ?_, ?_, ?_, ?_, ?_, ?_, ?_, ?_, ?_, ?_, ?_, ?_, ?_, ?_, ?_⟩ <;> rw [cell_of_row w g _ _ t (0, 0) h] <;> rfl
theorem heavy_not (act trial : Int) (v0 : Nat) (l0 : Int) (v1 : Nat) (l1 : Int) (on : Bool) (s v : Nat) (l z p : Int) (h0 h1 h : List UInt8) (hh : 100 < h0.length ∨ 100 < h1.length ∨ 100 < h.length) : mayB2 act trial v0 l0 h0 v1 l1 h1 on s v l z p h = false := by
  cases hm : mayB2 act trial v0 l0 h0 v1 l1 h1 on s v l z p h with
  | false => rfl
  | true =>
    exfalso
    have e : ∀ x : List UInt8, x = [] → x.length = 0 := fun x hx => by rw [hx]; rfl
    unfold mayB2 at hm
    rw [Bool.and_eq_true, Bool.and_eq_true] at hm
    obtain ⟨⟨_, h3⟩, h4⟩ := hm
    have k1 : h.length ≤ 32 := by
      cases on with
      | true => simp [manB] at h3; omega
      | false => simp at h3; have := e h h3.2.2.2.2.2; omega
    have k2 : h0.length ≤ 32 ∧ h1.length ≤ 32 := by
      split at h4 <;> simp [filledB, emptyB] at h4 <;> (obtain ⟨⟨_, ha⟩, hb⟩ := h4; rcases hb with ⟨_, hb⟩ | ⟨_, _, _, hb⟩) <;> first | omega | (have := e _ hb; omega)
    omega
theorem may_less {act trial : Int} {v0 : Nat} {l0 : Int} {v1 : Nat} {l1 : Int} {on : Bool} {s v : Nat} {l z p : Int} {h0 h1 h : List UInt8} (hm : mayB2 act trial v0 l0 h0 v1 l1 h1 on s v l z p h = true) : mayB2 act trial v0 l0 h0 v1 l1 h1 false 0 0 0 0 0 [] = true := by
  unfold mayB2 at hm ⊢
  simp only [Bool.and_eq_true] at hm ⊢
  exact ⟨⟨hm.1.1, by simp⟩, hm.2⟩
theorem newB_up {m m2 : Bool} {act : Int} {flo v0 v1 : Nat} {on : Bool} {v lo hi : Nat} (h : newB m act flo v0 v1 on v lo = true) (hle : lo ≤ hi) (h2 : m2 = true) : newB m act flo v0 v1 on v hi = true ∧ newB m2 act flo v0 v1 false 0 lo = true := by
  unfold newB at h ⊢
  simp only [Bool.and_eq_true, Bool.or_eq_true, decide_eq_true_eq] at h ⊢
  obtain ⟨⟨⟨h1, h3⟩, h4⟩, h5⟩ := h
  refine ⟨⟨⟨⟨h1, Nat.lt_of_lt_of_le h3 hle⟩, Nat.lt_of_lt_of_le h4 hle⟩, ?_⟩, ⟨⟨h2, h3⟩, h4⟩, .inl rfl⟩
  rcases h5 with h5 | h5
  · exact .inl h5
  · exact .inr (Nat.lt_of_lt_of_le h5 hle)
theorem newB_flo (m : Bool) (act : Int) (flo v0 v1 : Nat) (on : Bool) (v : Nat) : newB m act flo v0 v1 on v flo = false := by simp [newB]
theorem newB_act (m : Bool) (act : Int) (flo v0 v1 : Nat) (on : Bool) (v : Nat) : newB m act flo v0 v1 on v (if act = 0 then v0 else v1) = false := by simp [newB]
theorem newB_a0 (m : Bool) (flo v0 v1 : Nat) (on : Bool) (v : Nat) : newB m 0 flo v0 v1 on v v0 = false := by simp [newB]
theorem newB_a1 (m : Bool) (flo v0 v1 : Nat) (on : Bool) (v : Nat) : newB m 1 flo v0 v1 on v v1 = false := by simp [newB]
theorem newB_zero (m : Bool) (act : Int) (flo v0 v1 : Nat) (on : Bool) (v : Nat) : newB m act flo v0 v1 on v 0 = false := by simp [newB]
end Go.Proofs.YtanompoceadjoaaDoor
