/- few of layer 16; a call of a row of them, read. -/
import Derived.Test.YtekaoodagaplmaaFlAwake
import Derived.Test.YtekaoodagaplmaaLawFlCall
namespace Go.Proofs.Ytekaoodagaplmaa
open Go.RowKit
theorem FCalls.at_ {W W' : World} {A : Option Addr} {n : Nat} {ys : List FCall} (h : FCalls W A n ys) (hb : Below W.heap.size W W') {k : Nat} (hk : k < n) :
    ∃ b o y, A = some ⟨b, o, none⟩ ∧ b < W.heap.size ∧ y ∈ ys ∧ ys[k]? = some y ∧ y.good W ∧ W'.cell? ⟨b, o + k * 4, none⟩ = some (.int .i64 y.d) ∧ W'.cell? ⟨b, o + k * 4 + 1, none⟩ = some (.int .i64 y.a) ∧ W'.cell? ⟨b, o + k * 4 + 2, none⟩ = some (.int .i64 y.n) ∧ W'.cell? ⟨b, o + k * 4 + 3, none⟩ = some (.slice y.A y.m y.c) := by
  obtain ⟨hl, hg, hc⟩ := h
  obtain ⟨b, o, e, hbl, hcell⟩ := hc (by omega)
  have hk' : k < ys.length := by omega
  have key : ∀ j v, (ys[k]).vals[j]? = some v → W'.cell? ⟨b, o + (k * 4 + j), none⟩ = some v := fun j v hv => (hb.cell (p := ⟨b, o + (k * 4 + j), none⟩) hbl).trans (hcell k hk' j v hv)
  exact ⟨b, o, ys[k], e, hbl, List.getElem_mem hk', List.getElem?_eq_getElem hk', hg _ (List.getElem_mem hk'), key 0 _ rfl, key 1 _ rfl, key 2 _ rfl, key 3 _ rfl⟩
def FewOk (ys : List FCall) (w : World) (e : Ending) (w' : World) : Prop :=
  ∃ r : Bool, e = .returned (.bool r) ∧ Hid (r = true → ys.length ≤ 80 ∧ ∀ y ∈ ys, y.m ≤ 300) ∧ Hid (Below w.heap.size w w')
end Go.Proofs.Ytekaoodagaplmaa
