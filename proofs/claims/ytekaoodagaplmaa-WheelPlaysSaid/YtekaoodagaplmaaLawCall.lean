/- A struct of three numbers of 64 bits that came in by value. -/
import Derived.Test.YtekaoodagaplmaaLaw
namespace Go.Proofs.Ytekaoodagaplmaa
open Go.ChangeShapes Go.WideShapes Go.ChangeAt Go.RowKit
theorem open_ci64 {H : Type} {enc : TypeId × Value → H} {P : Program} {W : World} {t : TypeId} {fuel : Nat} {cs : List Value} {x : DataW H × List MemPlace}
    (ht : P.underlying t = some (.int .i64)) (hf : DataW.trod enc P W 0 (fun _ => true) true fuel t cs = some x) : ∃ n : Int, cs = [.int .i64 n] ∧ -9223372036854775808 ≤ n ∧ n ≤ 9223372036854775807 := by
  obtain ⟨x, hx, _, wx⟩ := DataW.trod_int ht hf
  have hb : -9223372036854775808 ≤ x ∧ x ≤ 9223372036854775807 := by simpa [Lit.wf, IntKind.min, IntKind.max, IntKind.signed, IntKind.bits] using wx
  exact ⟨x, hx, hb.1, hb.2⟩
theorem open_call {H : Type} {enc : TypeId × Value → H} {P : Program} {W : World} {base : Nat} {t : TypeId} {v : Value} {d : DataW H} {ps : List MemPlace} {f1 f2 f3 : Field}
    (ht : P.underlying t = some (.struct #[f1, f2, f3])) (ho : f1.offset = 0 ∧ f2.offset = 1 ∧ f3.offset = 2) (h1 : P.underlying f1.type = some (.int .i64)) (h2 : P.underlying f2.type = some (.int .i64)) (h3 : P.underlying f3.type = some (.int .i64))
    (hcs : P.cellsOf f1.type = 1 ∧ P.cellsOf f2.type = 1 ∧ P.cellsOf f3.type = 1) (hct : P.cellsOf t = 3)
    (hval : Value.okWide P W .any base t v) (h : DataW.Trod enc P W 0 (fun _ => true) true t v d ps) :
    ∃ (K L Z : Int), v = .agg #[.int .i64 K, .int .i64 L, .int .i64 Z] := by
  have hv := hval
  unfold Value.okWide at hv
  rw [ht] at hv
  obtain ⟨cs, rfl, hsz, _⟩ := hv
  rw [hct] at hsz
  obtain ⟨fuel, hf⟩ := h
  obtain ⟨xs, m, _, _, _, hxl, hx⟩ := DataW.trod_struct ht hf
  obtain ⟨c1, c2, c3, rfl⟩ : ∃ c1 c2 c3, cs = #[c1, c2, c3] := by
    match cs, hsz with
    | ⟨[c1, c2, c3]⟩, _ => exact ⟨c1, c2, c3, rfl⟩
  have e1 : (Value.agg #[c1, c2, c3]).cells.toList = [c1, c2, c3] := rfl
  have hxl4 : xs.length = 3 := hxl
  have g1 := hx 0 f1 rfl
  have g2 := hx 1 f2 rfl
  have g3 := hx 2 f3 rfl
  rw [e1, ho.1, hcs.1, List.getElem?_eq_getElem (by omega)] at g1
  rw [e1, ho.2.1, hcs.2.1, List.getElem?_eq_getElem (by omega)] at g2
  rw [e1, ho.2.2, hcs.2.2, List.getElem?_eq_getElem (by omega)] at g3
  obtain ⟨K, hK, hKl⟩ := open_ci64 h1 g1
  obtain ⟨L, hL, hLl⟩ := open_ci64 h2 g2
  obtain ⟨Z, hZ, hZl⟩ := open_ci64 h3 g3
  simp at hK hL hZ
  subst hK hL hZ
  exact ⟨K, L, Z, rfl⟩
end Go.Proofs.Ytekaoodagaplmaa
