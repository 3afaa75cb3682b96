/- SpreadSome's walk. -/
import Derived.Test.YtibleaaghhhjkaaDoorSpAwake
import Derived.Deep.RegionHeld3
import Derived.Deep.DeepCutAuto
import Derived.Test.YtibleaaghhhjkaaDoorLike
namespace Go.Proofs.YtibleaaghhhjkaaDoor.Sp
open Go.RowKit
open VecM RdM SoM Vc
theorem set4 {w : World} {g : Nat} {t : TypeId} {z0 z1 z2 z3 : Value} (h : w.heap[g]? = some (.cells #[z0, z1, z2, z3] t (0, 0))) (v0 v1 v2 v3 : Value) :
    ((((w.setCell ⟨g, 0, none⟩ v0).setCell ⟨g, 1, none⟩ v1).setCell ⟨g, 2, none⟩ v2).setCell ⟨g, 3, none⟩ v3).heap[g]? = some (.cells #[v0, v1, v2, v3] t (0, 0)) := by
  have h0 : (w.setCell ⟨g, 0, none⟩ v0).heap[g]? = some (.cells #[v0, z1, z2, z3] t (0, 0)) := heap_setCell_same _ g 0 _ t v0 h
  have h1 : ((w.setCell ⟨g, 0, none⟩ v0).setCell ⟨g, 1, none⟩ v1).heap[g]? = some (.cells #[v0, v1, z2, z3] t (0, 0)) := heap_setCell_same _ g 1 _ t v1 h0
  have h2 : (((w.setCell ⟨g, 0, none⟩ v0).setCell ⟨g, 1, none⟩ v1).setCell ⟨g, 2, none⟩ v2).heap[g]? = some (.cells #[v0, v1, v2, z3] t (0, 0)) := heap_setCell_same _ g 2 _ t v2 h1
  exact heap_setCell_same _ g 3 _ t v3 h2
theorem frozen4 {w : World} {g : Nat} {x y z u : Value} {t : TypeId} (h : w.heap[g]? = some (.cells #[x, y, z, u] t (0, 0))) : w.frozen? ⟨g, 0, none⟩ = false ∧ w.frozen? ⟨g, 1, none⟩ = false ∧ w.frozen? ⟨g, 2, none⟩ = false ∧ w.frozen? ⟨g, 3, none⟩ = false :=
  ⟨frozen_of_row w g 0 _ _ h, frozen_of_row w g 1 _ _ h, frozen_of_row w g 2 _ _ h, frozen_of_row w g 3 _ _ h⟩
/-- two boxes of parameters, in whatever world since wc -/
abbrev SB2 (wc : World) (g1 g2 s K P Z Z2 : Nat) (W : World) : Prop :=
  Below wc.heap.size wc W ∧ W.cell? ⟨g1, 0, none⟩ = some (.int .u32 (s : Int)) ∧ W.cell? ⟨g1, 1, none⟩ = some (.int .i64 (K : Int)) ∧ W.cell? ⟨g1, 2, none⟩ = some (.int .i64 (P : Int)) ∧ W.cell? ⟨g1, 3, none⟩ = some (.int .i64 (Z : Int)) ∧
    W.cell? ⟨g2, 0, none⟩ = some (.int .u32 (s : Int)) ∧ W.cell? ⟨g2, 1, none⟩ = some (.int .i64 (K : Int)) ∧ W.cell? ⟨g2, 2, none⟩ = some (.int .i64 (P : Int)) ∧ W.cell? ⟨g2, 3, none⟩ = some (.int .i64 (Z2 : Int))
theorem sb2_keep {wc : World} {g1 g2 s K P Z Z2 : Nat} {t1 t2 : TypeId} (h1 : wc.heap[g1]? = some (.cells #[.int .u32 (s : Int), .int .i64 (K : Int), .int .i64 (P : Int), .int .i64 (Z : Int)] t1 (0, 0))) (h2 : wc.heap[g2]? = some (.cells #[.int .u32 (s : Int), .int .i64 (K : Int), .int .i64 (P : Int), .int .i64 (Z2 : Int)] t2 (0, 0))) (W : World) (hW : Below wc.heap.size wc W) : SB2 wc g1 g2 s K P Z Z2 W := by
  obtain ⟨a0, a1, a2, a3⟩ := box4 ((hW.block g1 (Array.getElem?_eq_some_iff.1 h1).1).trans h1)
  obtain ⟨b0, b1, b2, b3⟩ := box4 ((hW.block g2 (Array.getElem?_eq_some_iff.1 h2).1).trans h2)
  exact ⟨hW, a0, a1, a2, a3, b0, b1, b2, b3⟩
theorem sb2_next {wc W W' : World} {g1 g2 s K P Z Z2 : Nat} (h : SB2 wc g1 g2 s K P Z Z2 W) (hb : Below W.heap.size W W') : Below wc.heap.size wc W' := h.1.trans (hb.mono h.1.size)
theorem sb2_below {wc W : World} {g1 g2 s K P Z Z2 : Nat} (h : SB2 wc g1 g2 s K P Z Z2 W) : Below wc.heap.size wc W := h.1
end Go.Proofs.YtibleaaghhhjkaaDoor.Sp
