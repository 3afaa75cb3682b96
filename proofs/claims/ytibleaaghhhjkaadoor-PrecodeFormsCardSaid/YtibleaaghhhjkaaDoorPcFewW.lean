/- PrecodeFew's walk. -/
import Derived.Test.YtibleaaghhhjkaaDoorPcSound
import Derived.Test.YtibleaaghhhjkaaDoorVecMore
import Derived.Test.YtibleaaghhhjkaaDoorLike
import Derived.Deep.DeepCutAuto
namespace Go.Proofs.YtibleaaghhhjkaaDoor.Pc
open Go.RowKit
open VecM RdM Vc Sp
/-- two boxes of parameters in whatever world since wc -/
abbrev SBF (wc : World) (g1 g2 s : Nat) (K1 P1 Z1 K2 P2 Z2 : Int) (W : World) : Prop :=
  Below wc.heap.size wc W ∧ (W.cell? ⟨g1, 0, none⟩ = some (.int .u32 (s : Int)) ∧ W.cell? ⟨g1, 1, none⟩ = some (.int .i64 K1) ∧ W.cell? ⟨g1, 2, none⟩ = some (.int .i64 P1) ∧ W.cell? ⟨g1, 3, none⟩ = some (.int .i64 Z1)) ∧
    (W.cell? ⟨g2, 0, none⟩ = some (.int .u32 (s : Int)) ∧ W.cell? ⟨g2, 1, none⟩ = some (.int .i64 K2) ∧ W.cell? ⟨g2, 2, none⟩ = some (.int .i64 P2) ∧ W.cell? ⟨g2, 3, none⟩ = some (.int .i64 Z2))
theorem sbf_keep {wc : World} {g1 g2 s : Nat} {K1 P1 Z1 K2 P2 Z2 : Int} {t1 t2 : TypeId} (h1 : wc.heap[g1]? = some (.cells #[.int .u32 (s : Int), .int .i64 K1, .int .i64 P1, .int .i64 Z1] t1 (0, 0))) (h2 : wc.heap[g2]? = some (.cells #[.int .u32 (s : Int), .int .i64 K2, .int .i64 P2, .int .i64 Z2] t2 (0, 0)))
    (W : World) (hW : Below wc.heap.size wc W) : SBF wc g1 g2 s K1 P1 Z1 K2 P2 Z2 W :=
  ⟨hW, box4 ((hW.block g1 (Array.getElem?_eq_some_iff.1 h1).1).trans h1), box4 ((hW.block g2 (Array.getElem?_eq_some_iff.1 h2).1).trans h2)⟩
theorem sbf_next {wc W W' : World} {g1 g2 s : Nat} {K1 P1 Z1 K2 P2 Z2 : Int} (h : SBF wc g1 g2 s K1 P1 Z1 K2 P2 Z2 W) (hb : Below W.heap.size W W') : Below wc.heap.size wc W' := h.1.trans (hb.mono h.1.size)
theorem sbf_below {wc W : World} {g1 g2 s : Nat} {K1 P1 Z1 K2 P2 Z2 : Int} (h : SBF wc g1 g2 s K1 P1 Z1 K2 P2 Z2 W) : Below wc.heap.size wc W := h.1
/-- two rows of pointers and what they point to, in whatever world since wc -/
def Two2 (s K P Q gA gB : Nat) (gs hs gs2 hs2 : Nat → Nat) (W : World) : Prop :=
  gA < W.heap.size ∧ gB < W.heap.size ∧ (∀ j, j < P → W.cell? ⟨gA, j, none⟩ = some (.pointer (some ⟨gs j, 0, none⟩)) ∧ VecAt W (gs j) (hs j) (K + P) (parJ s K j)) ∧
    ∀ j, j < Q → W.cell? ⟨gB, j, none⟩ = some (.pointer (some ⟨gs2 j, 0, none⟩)) ∧ VecAt W (gs2 j) (hs2 j) (K + Q) (parJ s K j)
theorem Two2.below {s K P Q gA gB : Nat} {gs hs gs2 hs2 : Nat → Nat} {W W' : World} (h : Two2 s K P Q gA gB gs hs gs2 hs2 W) (hb : Below W.heap.size W W') : Two2 s K P Q gA gB gs hs gs2 hs2 W' := by
  obtain ⟨h1, h2, h3, h4⟩ := h
  have hs := hb.size
  exact ⟨by omega, by omega, fun j hj => ⟨(hb.cell (p := ⟨gA, j, none⟩) h1).trans (h3 j hj).1, (h3 j hj).2.below hb⟩, fun j hj => ⟨(hb.cell (p := ⟨gB, j, none⟩) h2).trans (h4 j hj).1, (h4 j hj).2.below hb⟩⟩
theorem two2_of {s K P Q gA gB : Nat} {gs hs gs2 hs2 : Nat → Nat} {b1 b2 : Nat} {W1 W2 : World} (hv1 : VRows s K P P gA gs hs W1) (ho1 : W1.ownsRow b1 26 1 (.slice (some ⟨gA, 0, none⟩) P P) P (pvk gs P P)) (hb : Below W1.heap.size W1 W2)
    (hv2 : VRows s K Q Q gB gs2 hs2 W2) (ho2 : W2.ownsRow b2 26 1 (.slice (some ⟨gB, 0, none⟩) Q Q) Q (pvk gs2 Q Q)) : Two2 s K P Q gA gB gs hs gs2 hs2 W2 := by
  have h1 := (ho1.lt gA rfl).2
  have hs := hb.size
  refine ⟨by omega, (ho2.lt gB rfl).2, fun j hj => ⟨?_, (hv1 j hj).2.2.below hb⟩, fun j hj => ⟨?_, (hv2 j hj).2.2⟩⟩
  · have h := (ho1.cellAt j (by omega)).trans (pvk_get gs P P j hj)
    rw [if_pos hj] at h
    exact (hb.cell (p := ⟨gA, j, none⟩) h1).trans h
  · have h := (ho2.cellAt j (by omega)).trans (pvk_get gs2 Q Q j hj)
    rw [if_pos hj] at h
    exact h
abbrev SFw (wr : World) (gq K Q gA gB k ga gb : Nat) (W : World) : Prop :=
  Below wr.heap.size wr W ∧ W.cell? ⟨gq, 1, none⟩ = some (.int .i64 (K : Int)) ∧ W.cell? ⟨gq, 2, none⟩ = some (.int .i64 (Q : Int)) ∧ W.cell? ⟨gA, k, none⟩ = some (.pointer (some ⟨ga, 0, none⟩)) ∧ W.cell? ⟨gB, k, none⟩ = some (.pointer (some ⟨gb, 0, none⟩))
theorem sfw_next {wr W W' : World} {gq K Q gA gB k ga gb : Nat} (h : SFw wr gq K Q gA gB k ga gb W) (hb : Below W.heap.size W W') : Below wr.heap.size wr W' := h.1.trans (hb.mono h.1.size)
theorem sfw_below {wr W : World} {gq K Q gA gB k ga gb : Nat} (h : SFw wr gq K Q gA gB k ga gb W) : Below wr.heap.size wr W := h.1
end Go.Proofs.YtibleaaghhhjkaaDoor.Pc
