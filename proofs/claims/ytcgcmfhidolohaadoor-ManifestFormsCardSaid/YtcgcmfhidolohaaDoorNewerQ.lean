/- session.Newer, law19.Heavy: by contracts. -/
import Derived.Test.YtcgcmfhidolohaaDoorStMayQ
namespace Go.Proofs.YtcgcmfhidolohaaDoor
open Go.RowKit
def newB (may : Bool) (act : Int) (flo v0 v1 : Nat) (on : Bool) (v ver : Nat) : Bool :=
  may && decide (flo < ver) && decide ((if act = 0 then v0 else v1) < ver) && (!on || decide (v < ver))
theorem bx17n {w : World} {g : Nat} {t : TypeId} {a0 a1 a2 a3 a4 a5 a6 a7 a8 a9 a10 a11 a12 a13 a14 a15 a16 : Value} (h : w.heap[g]? = some (.cells #[a0, a1, a2, a3, a4, a5, a6, a7, a8, a9, a10, a11, a12, a13, a14, a15, a16] t (0, 0))) :
    w.cell? ⟨g, 0, none⟩ = some a0 ∧ w.cell? ⟨g, 2, none⟩ = some a2 ∧ w.cell? ⟨g, 4, none⟩ = some a4 ∧ w.cell? ⟨g, 7, none⟩ = some a7 ∧ w.cell? ⟨g, 10, none⟩ = some a10 ∧ w.cell? ⟨g, 12, none⟩ = some a12 := by
  refine ⟨?_, ?_, ?_, ?_, ?_, ?_⟩ <;> rw [cell_of_row w g _ _ t (0, 0) h] <;> rfl
theorem may_act_of (act trial : Int) (_flo _gen v0 : Nat) (l0 : Int) (_A0 : Option Addr) (_n0 _c0 : Nat) (v1 : Nat) (l1 : Int) (_A1 : Option Addr) (_n1 _c1 : Nat) (on : Bool) (s v : Nat) (l z p : Int) (_A : Option Addr) (_n _c _B : Nat) (h0 h1 h : List UInt8) (h' : mayB2 act trial v0 l0 h0 v1 l1 h1 on s v l z p h = true) : act = 0 ∨ act = 1 := by
  simp only [mayB2, Bool.and_eq_true, decide_eq_true_eq] at h'
  exact h'.1.1.1
end Go.Proofs.YtcgcmfhidolohaaDoor
