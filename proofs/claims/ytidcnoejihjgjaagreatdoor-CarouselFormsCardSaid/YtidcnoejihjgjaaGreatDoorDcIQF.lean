/- decode.Image: by contract. -/
import Derived.Test.YtidcnoejihjgjaaGreatDoorDcNQF
namespace Go.Proofs.YtidcnoejihjgjaaGreatDoor.Dc
open Go.RowKit
open VecM RdM Vc Sp Pc El
def decL (s K P Z gm t : Nat) (d m : Int) (v : Value) : Array Value := #[.int .u32 (s : Int), .int .i64 (K : Int), .int .i64 (P : Int), .int .i64 (Z : Int), .pointer (some ⟨gm, 0, none⟩), .int .i64 (t : Int), .int .u32 d, .int .i32 m, .int .u32 0, v]
structure DM (s K P Z gm t gd b : Nat) (w W : World) : Prop where
  bt : But w.heap.size gd w W
  bx : W.heap[b]? = some (.cells #[.pointer (some ⟨gd, 0, none⟩)] 89 (0, 0))
  x : ∃ v, W.heap[gd]? = some (.cells (decL s K P Z gm t 0 1 v) 140 (0, 0))
theorem DM.size {s K P Z gm t gd b : Nat} {w W : World} (h : DM s K P Z gm t gd b w W) : w.heap.size ≤ W.heap.size := h.bt.size
theorem DM.below {s K P Z gm t gd b : Nat} {w W W' : World} (h : DM s K P Z gm t gd b w W) (hb : Below W.heap.size W W') : DM s K P Z gm t gd b w W' := by
  obtain ⟨v, hv⟩ := h.x
  exact ⟨h.bt.trans (But.of_below (hb.mono h.bt.size)), (hb.block _ (Array.getElem?_eq_some_iff.1 h.bx).1).trans h.bx, v, (hb.block _ (Array.getElem?_eq_some_iff.1 hv).1).trans hv⟩
theorem DM.store {s K P Z gm t gd b : Nat} {w W : World} (h : DM s K P Z gm t gd b w W) (u : Value) : DM s K P Z gm t gd b w (W.setCell ⟨gd, 9, none⟩ u) := by
  obtain ⟨v, hv⟩ := h.x
  have hne : b ≠ gd := by
    intro e
    have h1 := h.bx
    rw [e, hv] at h1
    injection h1 with h1
    injection h1 with h1 _ _
    have h2 := congrArg Array.size h1
    simp [decL] at h2
  exact ⟨h.bt.setSelf 9 u, (heap_setCell_other _ _ _ _ hne).trans h.bx, u, heap_setCell_same _ gd 9 _ _ u hv⟩
def DoneQ (F : Nat → Prop) (gd s K P Z gm : Nat) (M : Mx) (t : Nat) (w wq : World) : Prop :=
  ∃ gl c es, wq.heap[gd]? = some (.cells (decC s K P Z gm t 1 (.slice (some ⟨gl, 0, none⟩) K c)) 140 (0, 0)) ∧ PcsIn wq (fun b => (F b ∨ (w.heap.size ≤ b ∧ b < wq.heap.size)) ∧ b ≠ gd) gl K es ∧ es.map (·.l) = (solM M).take K ∧ K ≤ c ∧ c ≤ 9223372036854775807 ∧
    IsDec wq (fun b => F b ∨ (w.heap.size ≤ b ∧ b < wq.heap.size)) gd s K P Z M t ∧ Fr w wq F ∧ wq.cell? ⟨w.heap.size, 0, none⟩ = some (.pointer (some ⟨gd, 0, none⟩))
theorem DoneQ.box {F : Nat → Prop} {gd s K P Z gm t : Nat} {M : Mx} {w wq : World} (h : DoneQ F gd s K P Z gm M t w wq) : wq.cell? ⟨w.heap.size, 0, none⟩ = some (.pointer (some ⟨gd, 0, none⟩)) := by
  obtain ⟨_, _, _, _, _, _, _, _, _, _, h⟩ := h
  exact h
end Go.Proofs.YtidcnoejihjgjaaGreatDoor.Dc
