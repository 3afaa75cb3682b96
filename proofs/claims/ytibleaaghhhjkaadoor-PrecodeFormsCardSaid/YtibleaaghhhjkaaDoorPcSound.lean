/- layer 9's laws: parameters that may be, and pieces of them. -/
import Derived.Test.YtibleaaghhhjkaaDoorPcAwake
import Derived.Laws.ResultCell
import Derived.Laws.Rows
namespace Go.Proofs.YtibleaaghhhjkaaDoor.Pc
open Go.RowKit
open VecM RdM Vc Sp
theorem results_cell_row {P : Program} {fn : Func} {p u : Tmp} {ty : TypeId} (h : fn.results = #[.cell p ty, .tmp u]) (tmps : Array Value) (w : World) (g : Nat) (t : TypeId) (cs : Array Value) (fr : Nat × Nat) (d : TypeDesc)
    (hp : tmps.getD p undef = .pointer (some ⟨g, 0, none⟩)) (hg : w.heap[g]? = some (.cells cs t fr))
    (hu : P.underlying ty = some d) (hd : (match d with | .struct _ | .array _ _ => true | _ => false) = true) (hi : (P.info? ty).map (·.size) = some cs.size) :
    (results fn tmps).run P w = .ok (.tuple #[.agg cs, tmps.getD u undef]) w := by
  rw [results_cell_tmp h, hp]
  simp [asAddr, run_loadVar_row w g t ty cs fr d hg hu hd hi]
theorem setBox {w : World} {g : Nat} {t : TypeId} {z0 z1 z2 z3 : Value} (h : w.heap[g]? = some (.cells #[z0, z1, z2, z3] t (0, 0))) (v0 v1 v2 v3 : Value) :
    ((((w.setCell ⟨g, 0, none⟩ v0).setCell ⟨g, 1, none⟩ v1).setCell ⟨g, 2, none⟩ v2).setCell ⟨g, 3, none⟩ v3).heap[g]? = some (.cells #[v0, v1, v2, v3] t (0, 0)) := by
  have h0 : (w.setCell ⟨g, 0, none⟩ v0).heap[g]? = some (.cells #[v0, z1, z2, z3] t (0, 0)) := heap_setCell_same _ g 0 _ t v0 h
  have h1 : ((w.setCell ⟨g, 0, none⟩ v0).setCell ⟨g, 1, none⟩ v1).heap[g]? = some (.cells #[v0, v1, z2, z3] t (0, 0)) := heap_setCell_same _ g 1 _ t v1 h0
  have h2 : (((w.setCell ⟨g, 0, none⟩ v0).setCell ⟨g, 1, none⟩ v1).setCell ⟨g, 2, none⟩ v2).heap[g]? = some (.cells #[v0, v1, v2, z3] t (0, 0)) := heap_setCell_same _ g 2 _ t v2 h1
  exact heap_setCell_same _ g 3 _ t v3 h2
theorem frozenBox {w : World} {g : Nat} {x y z u : Value} {t : TypeId} (h : w.heap[g]? = some (.cells #[x, y, z, u] t (0, 0))) : w.frozen? ⟨g, 0, none⟩ = false ∧ w.frozen? ⟨g, 1, none⟩ = false ∧ w.frozen? ⟨g, 2, none⟩ = false ∧ w.frozen? ⟨g, 3, none⟩ = false :=
  ⟨frozen_of_row w g 0 _ _ h, frozen_of_row w g 1 _ _ h, frozen_of_row w g 2 _ _ h, frozen_of_row w g 3 _ _ h⟩
theorem PW.set {ls : List (List UInt8)} {base b i : Nat} {v u : Value} {w : World} (h : PW ls base v w) (hb : b < base) : PW ls base v (w.setCell ⟨b, i, none⟩ u) := by
  obtain ⟨es, h1, h2, h3⟩ := h
  refine ⟨es, h1, h2.kept (grown_set1 w b i u) (.inr (fun e => by have := (h2.lt b e).1; omega)), fun r hr => ?_⟩
  obtain ⟨g, a, q, c⟩ := h3 r hr
  exact ⟨g, a, q, c.kept (grown_set1 w b i u) (.inr (fun e => by have := (c.lt b e).1; omega))⟩
theorem store_byte {wx : World} {g Z base m : Nat} {X : Int} {a : List UInt8} (ha : a.length = Z) (ho : wx.ownsRow base 5 1 (.slice (some ⟨g, 0, none⟩) Z Z) Z (bv a)) (hX : 0 ≤ X ∧ X < 256) :
    Hid (∃ a' : List UInt8, a'.length = Z ∧ (wx.setCell ⟨g, m, none⟩ (.int .u8 X)).ownsRow base 5 1 (.slice (some ⟨g, 0, none⟩) Z Z) Z (bv a')) := by
  refine ⟨a.set m (UInt8.ofNat X.toNat), by simpa using ha, ?_⟩
  have h := (ho.stored m (.int .u8 X)).1
  have e : bv (a.set m (UInt8.ofNat X.toNat)) = (bv a).set m (.int .u8 X) := by
    unfold bv
    rw [List.map_set]
    congr 1
    have : (UInt8.ofNat X.toNat).toNat = X.toNat := by rw [UInt8.toNat_ofNat']; omega
    simp [this]
    omega
  rw [e]
  exact h
def SoundOk9 (s : Nat) (w : World) (e : Ending) (w' : World) : Prop := ∃ (K P Z : Nat) (ls : List (List UInt8)) (v : Value), e = .returned (.tuple #[parV s K P Z, v]) ∧ Hid ((1 ≤ K ∧ K ≤ 64) ∧ P ≤ 16 ∧ (1 ≤ Z ∧ Z ≤ 16)) ∧ Hid (PW ls w.heap.size v w' ∧ ls.length = K ∧ ∀ l ∈ ls, l.length = Z) ∧ Hid (Below w.heap.size w w')
end Go.Proofs.YtibleaaghhhjkaaDoor.Pc
