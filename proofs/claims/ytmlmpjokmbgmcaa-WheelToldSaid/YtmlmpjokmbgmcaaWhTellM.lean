/- WheelTold: what was told may be spoilt. -/
import Derived.Test.YtmlmpjokmbgmcaaWhRecU
import Derived.Test.YtmlmpjokmbgmcaaWhOthM
namespace Go.Proofs.Ytmlmpjokmbgmcaa
open Go.RowKit
/-- the told list of records: readable, its bytes writable; nothing older was turned -/
structure Sp (wx : World) (A : Option Addr) (es : List RRow) (W : World) : Prop where
  b : Below wx.heap.size wx W
  rcs : ∀ k (hk : k < es.length), ∃ gl g, A = some ⟨gl, 0, none⟩ ∧ es[k].A = some ⟨g, 0, none⟩ ∧ W.cell? ⟨gl, k * 2, none⟩ = some (.int .u32 (es[k].id : Int)) ∧ W.cell? ⟨gl, k * 2 + 1, none⟩ = some (.slice (some ⟨g, 0, none⟩) es[k].n es[k].c) ∧ gl < W.heap.size
  ub : ∀ r ∈ es, ∃ g, r.A = some ⟨g, 0, none⟩ ∧ wx.heap.size ≤ g ∧ (∀ gl, A = some ⟨gl, 0, none⟩ → gl ≠ g) ∧ ∃ cs : Array Value, W.heap[g]? = some (.cells cs 5 (0, 0)) ∧ ∀ i, i < r.n → ∃ x : UInt8, cs[i]? = some (.int .u8 (x.toNat : Int))
section
variable {wx W W' : World} {A : Option Addr} {es : List RRow}
theorem Sp.of {n c : Nat} (hr : RecW (fun b => wx.heap.size ≤ b) W (.slice A n c) n es) (hu : URs es W) (hb : Below wx.heap.size wx W) : Sp wx A es W := by
  refine ⟨hb, fun k hk => ?_, fun r hm => ?_⟩
  · obtain ⟨gl, hA, hk2, c0, c1, _⟩ := hr.at_ (k := k) (by rw [← hr.2.2.1]; exact hk)
    obtain ⟨g, e, _⟩ := hu.is es[k] (List.getElem_mem hk)
    rw [e] at c1
    exact ⟨gl, g, hA, e, c0, c1, (hr.1.lt gl (by rw [hA]; rfl)).2⟩
  · obtain ⟨g, e, cs, hg⟩ := hu.is r hm
    obtain ⟨g2, o2, e2, hq, _, hne, hrow⟩ := hr.2.2.2 r hm
    have e3 := e2
    rw [e] at e3
    injection e3 with e3
    injection e3 with e3 e4
    subst e3 e4
    refine ⟨g, e, hq, fun gl hA eq => hne (by rw [hA, eq]; rfl), cs, hg, fun i hi => ?_⟩
    obtain ⟨b, o, e5, _, hc⟩ := hrow.2 (by omega)
    rw [e2] at e5
    injection e5 with e5
    injection e5 with e5 e6
    subst e5 e6
    have hl := hrow.blen
    have := hc i (.int .u8 ((r.d[i]'(by omega)).toNat : Int)) (by simp [bv, show i < r.d.length by omega])
    rw [Nat.zero_add, cell_of_row W g i cs _ (0, 0) hg] at this
    exact ⟨_, this⟩
theorem Sp.below (h : Sp wx A es W) (hb : Below W.heap.size W W') : Sp wx A es W' := by
  refine ⟨h.b.trans (hb.mono h.b.size), fun k hk => ?_, fun r hm => ?_⟩
  · obtain ⟨gl, g, hA, he, c0, c1, hl⟩ := h.rcs k hk
    refine ⟨gl, g, hA, he, ?_, ?_, Nat.lt_of_lt_of_le hl hb.size⟩
    · rw [World.cell?_of_block (w := W) (w' := W') (hb.block gl hl)]; exact c0
    · rw [World.cell?_of_block (w := W) (w' := W') (hb.block gl hl)]; exact c1
  · obtain ⟨g, e, hq, hne, cs, hg, hx⟩ := h.ub r hm
    exact ⟨g, e, hq, hne, cs, (hb.block g (Array.getElem?_eq_some_iff.1 hg).1).trans hg, hx⟩
theorem Sp.set {r : RRow} {g i : Nat} (h : Sp wx A es W) (hm : r ∈ es) (hA : r.A = some ⟨g, 0, none⟩) (y : UInt8) : Sp wx A es (W.setCell ⟨g, i, none⟩ (.int .u8 (y.toNat : Int))) := by
  obtain ⟨g', e, hq, hne, cs, hg, hx⟩ := h.ub r hm
  rw [hA] at e
  injection e with e
  injection e with e
  subst e
  refine ⟨h.b.setCell hq _, fun k hk => ?_, fun r' hm' => ?_⟩
  · obtain ⟨gl, g2, hA2, he, c0, c1, hl⟩ := h.rcs k hk
    have hb := heap_setCell_other W ⟨g, i, none⟩ gl (.int .u8 (y.toNat : Int)) (hne gl hA2)
    refine ⟨gl, g2, hA2, he, ?_, ?_, by simpa [World.setCell] using hl⟩
    · rw [World.cell?_of_block (w := W) (w' := W.setCell ⟨g, i, none⟩ (.int .u8 (y.toNat : Int))) hb]; exact c0
    · rw [World.cell?_of_block (w := W) (w' := W.setCell ⟨g, i, none⟩ (.int .u8 (y.toNat : Int))) hb]; exact c1
  · obtain ⟨g2, e2, hq2, hne2, cs2, hg2, hx2⟩ := h.ub r' hm'
    by_cases hgg : g2 = g
    · subst hgg
      rw [hg] at hg2
      injection hg2 with hg2
      injection hg2 with hg2 _ _
      subst hg2
      refine ⟨g2, e2, hq2, hne2, _, heap_setCell_same W g2 i cs _ _ hg, fun j hj => ?_⟩
      rw [Array.getElem?_setIfInBounds]
      obtain ⟨x, hx3⟩ := hx2 j hj
      by_cases hij : i = j
      · rw [if_pos hij, if_pos (by rw [hij]; exact (Array.getElem?_eq_some_iff.1 hx3).1)]; exact ⟨y, rfl⟩
      · rw [if_neg hij]; exact ⟨x, hx3⟩
    · exact ⟨g2, e2, hq2, hne2, cs2, (heap_setCell_other W ⟨g, i, none⟩ g2 _ hgg).trans hg2, hx2⟩
theorem Sp.byte {r : RRow} {g i : Nat} (h : Sp wx A es W) (hm : r ∈ es) (hA : r.A = some ⟨g, 0, none⟩) (hi : i < r.n) : ∃ x : UInt8, W.cell? ⟨g, i, none⟩ = some (.int .u8 (x.toNat : Int)) ∧ W.frozen? ⟨g, i, none⟩ = false := by
  obtain ⟨g', e, hq, hne, cs, hg, hx⟩ := h.ub r hm
  rw [hA] at e
  injection e with e
  injection e with e
  subst e
  obtain ⟨x, hx⟩ := hx i hi
  exact ⟨x, by rw [cell_of_row W g i cs _ (0, 0) hg]; exact hx, frozen_of_row W g i cs _ hg⟩
theorem Sp.apart {r : RRow} {g gr : Nat} {z : Array Value} (h : Sp wx A es W) (hm : r ∈ es) (hA : r.A = some ⟨g, 0, none⟩) (hx : W.heap[gr]? = some (.cells z 73 (0, 0))) : gr ≠ g := by
  obtain ⟨g', e, _, _, cs, hg, _⟩ := h.ub r hm
  rw [hA] at e
  injection e with e
  injection e with e
  subst e
  intro q
  rw [q, hg] at hx
  injection hx with hx
  injection hx with _ h2 _
  exact absurd h2 (by decide)
end
theorem xor_255 (a : UInt8) : bits .xor .u8 (a.toNat : Int) 255 = ((a ^^^ 255).toNat : Int) := by
  have h := u8_xor_nat a.toNat 255 a.toNat_lt (by decide)
  rw [UInt8.toNat_xor]
  exact h
end Go.Proofs.Ytmlmpjokmbgmcaa
