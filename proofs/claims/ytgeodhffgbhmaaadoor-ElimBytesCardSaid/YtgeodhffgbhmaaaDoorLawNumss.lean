/- A slice of slices of int that came in. -/
import Derived.Test.YtgeodhffgbhmaaaDoorLawNums
import Derived.Test.YtgeodhffgbhmaaaDoorVecSet
import Derived.Deep.Matrix
namespace Go.Proofs.YtgeodhffgbhmaaaDoor
open Go.ChangeShapes Go.WideShapes Go.ChangeAt Go.RowKit Vc
/-- one row -/
structure NRow where
  A : Option Addr
  n : Nat
  c : Nat
  zs : List Int
/-- rows of numbers that lie in memory -/
def Numss (W : World) (A : Option Addr) (m : Nat) (R : Nat → NRow) : Prop := ∀ i, i < m → ∃ b o, A = some ⟨b, o, none⟩ ∧ b < W.heap.size ∧ W.cell? ⟨b, o + i, none⟩ = some (.slice (R i).A (R i).n (R i).c) ∧ Row W W.heap.size (R i).A (R i).n (nv (R i).zs) ∧ (R i).n ≤ (R i).c ∧ (R i).c ≤ 9223372036854775807
theorem open_numss {H : Type} {enc : TypeId × Value → H} {P : Program} {W : World} {base : Nat} {t e q : TypeId} {v : Value} {d : DataW H} {ps : List MemPlace}
    (ht : P.underlying t = some (.slice e)) (he : P.underlying e = some (.slice q)) (hq : P.underlying q = some (.int .i64)) (ce : P.cellsOf e = 1) (cq : P.cellsOf q = 1) (hval : Value.okWide P W .any base t v) (h : DataW.Trod enc P W 0 (fun _ => true) true t v d ps) :
    ∃ (A : Option Addr) (n cap : Nat) (R : Nat → NRow), v = .slice A n cap ∧ n ≤ cap ∧ cap ≤ 9223372036854775807 ∧ Numss W A n R := by
  obtain ⟨a0, len, cap, rfl⟩ := okWide_slice ht hval
  obtain ⟨fuel, hf⟩ := h
  rcases Go.Deep.open_int_rows ht he hq ce cq hf with ⟨hcs, hx⟩ | ⟨a, len', cap', A, L, C, Z, hcs, _, hl, hm, hx, hr⟩
  · simp [Value.cells] at hcs
    obtain ⟨rfl, rfl, rfl⟩ := hcs
    exact ⟨none, 0, 0, fun _ => ⟨none, 0, 0, []⟩, rfl, Nat.le_refl _, by omega, fun i hi => by omega⟩
  · simp [Value.cells] at hcs
    obtain ⟨rfl, rfl, rfl⟩ := hcs
    unfold maxLen at hm
    refine ⟨some a, len, cap, fun r => ⟨A r, L r, C r, (Z r).take (L r)⟩, rfl, hl, by omega, fun i hi => ?_⟩
    obtain ⟨b, o, rfl, hc⟩ := nums_at (fun r hr' => (hr r hr').1) (show 0 < cap by omega)
    obtain ⟨_, h1, h2, h3, h4, h5, h6⟩ := hr i (by omega)
    unfold maxLen at h2
    refine ⟨b, o, rfl, block_lt_of_cell (hc i (by omega)), hc i (by omega), ?_, h1, by show C i ≤ _; omega⟩
    show Row W W.heap.size (A i) (L i) (nv ((Z i).take (L i)))
    refine ⟨by rw [nv_length, List.length_take]; omega, fun hn => ?_⟩
    cases hA : A i with
    | none => have := h5 hA; omega
    | some a' =>
      obtain ⟨_, hc2⟩ := h6 a' hA
      obtain ⟨b2, o2, rfl, hc3⟩ := nums_at hc2 (by omega)
      refine ⟨b2, o2, rfl, block_lt_of_cell (hc3 0 (by omega)), fun j u hu => ?_⟩
      have hj : j < L i := by
        have := (List.getElem?_eq_some_iff.1 hu).1
        rw [nv_length, List.length_take] at this; omega
      rw [hc3 j (by omega), ← hu]
      simp [nv, hj, List.getD, show j < (Z i).length by omega]
theorem Numss.keep {W W' : World} {A : Option Addr} {m : Nat} {R : Nat → NRow} (h : Numss W A m R) (hb : Below W.heap.size W W') : Numss W' A m R := fun i hi => by
  obtain ⟨b, o, e, hl, h1, h4, h5⟩ := h i hi
  exact ⟨b, o, e, Nat.lt_of_lt_of_le hl hb.size, (hb.cell (p := ⟨b, o + i, none⟩) hl).trans h1, (h4.below hb).more hb.size, h5⟩
end Go.Proofs.YtgeodhffgbhmaaaDoor
