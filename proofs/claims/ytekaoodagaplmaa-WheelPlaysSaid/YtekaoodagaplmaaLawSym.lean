/- A symbol (two numbers of 32 bits, a byte slice) that came in by value. -/
import Derived.Test.YtekaoodagaplmaaLaw
namespace Go.Proofs.Ytekaoodagaplmaa
open Go.ChangeShapes Go.WideShapes Go.ChangeAt Go.RowKit
theorem open_cbytes {H : Type} {enc : TypeId × Value → H} {P : Program} {W : World} {t e : TypeId} {fuel : Nat} {cs : List Value} {x : DataW H × List MemPlace}
    (ht : P.underlying t = some (.slice e)) (he : P.underlying e = some (.int .u8)) (hc : P.cellsOf e = 1) (hf : DataW.trod enc P W 0 (fun _ => true) true fuel t cs = some x) :
    ∃ (A : Option Addr) (n cap : Nat) (l : List UInt8), cs = [.slice A n cap] ∧ Row W W.heap.size A n (bv l) ∧ n ≤ cap ∧ cap ≤ 9223372036854775807 := by
  rcases open_ints ht he hc hf with ⟨hcs, hx⟩ | ⟨a, len, cap, zs, hcs, _, hl, hm, hz, hx, hcell, hwz⟩
  · exact ⟨none, 0, 0, [], hcs, Row.nil _ _ _, Nat.le_refl _, by omega⟩
  · unfold maxLen at hm
    simp at hz
    refine ⟨_, _, _, _, hcs, row_of_ints (by omega) hcell hwz ?_, hl, by omega⟩
    rcases Nat.eq_zero_or_pos len with h0 | h0
    · exact .inr h0
    · left
      have := block_lt_of_cell (hcell 0 (by omega))
      simpa [Addr.add] using this
theorem open_cu32 {H : Type} {enc : TypeId × Value → H} {P : Program} {W : World} {t : TypeId} {fuel : Nat} {cs : List Value} {x : DataW H × List MemPlace}
    (ht : P.underlying t = some (.int .u32)) (hf : DataW.trod enc P W 0 (fun _ => true) true fuel t cs = some x) : ∃ n : Nat, cs = [.int .u32 (n : Int)] ∧ n < 4294967296 := by
  obtain ⟨x, hx, _, wx⟩ := DataW.trod_int ht hf
  have hb : 0 ≤ x ∧ x ≤ 4294967295 := by simpa [Lit.wf, IntKind.min, IntKind.max, IntKind.signed, IntKind.bits] using wx
  exact ⟨x.toNat, by rw [hx]; congr 2; omega, by omega⟩
theorem open_sym {H : Type} {enc : TypeId × Value → H} {P : Program} {W : World} {base : Nat} {t e : TypeId} {v : Value} {d : DataW H} {ps : List MemPlace} {f0 f1 f2 : Field}
    (ht : P.underlying t = some (.struct #[f0, f1, f2])) (ho : f0.offset = 0 ∧ f1.offset = 1 ∧ f2.offset = 2) (h0 : P.underlying f0.type = some (.int .u32)) (h1 : P.underlying f1.type = some (.int .u32)) (h2 : P.underlying f2.type = some (.slice e))
    (he : P.underlying e = some (.int .u8)) (hc : P.cellsOf e = 1) (hcs : P.cellsOf f0.type = 1 ∧ P.cellsOf f1.type = 1 ∧ P.cellsOf f2.type = 1) (hct : P.cellsOf t = 3)
    (hval : Value.okWide P W .any base t v) (h : DataW.Trod enc P W 0 (fun _ => true) true t v d ps) :
    ∃ (s id : Nat) (A : Option Addr) (n cap : Nat) (l : List UInt8), v = .agg #[.int .u32 (s : Int), .int .u32 (id : Int), .slice A n cap] ∧ s < 4294967296 ∧ id < 4294967296 ∧ Row W W.heap.size A n (bv l) ∧ n ≤ cap ∧ cap ≤ 9223372036854775807 := by
  have hv := hval
  unfold Value.okWide at hv
  rw [ht] at hv
  obtain ⟨cs, rfl, hsz, _⟩ := hv
  rw [hct] at hsz
  obtain ⟨fuel, hf⟩ := h
  obtain ⟨xs, m, _, _, _, hxl, hx⟩ := DataW.trod_struct ht hf
  obtain ⟨c0, c1, c2, rfl⟩ : ∃ c0 c1 c2, cs = #[c0, c1, c2] := by
    match cs, hsz with
    | ⟨[c0, c1, c2]⟩, _ => exact ⟨c0, c1, c2, rfl⟩
  have e1 : (Value.agg #[c0, c1, c2]).cells.toList = [c0, c1, c2] := rfl
  have hxl3 : xs.length = 3 := hxl
  have g0 := hx 0 f0 rfl
  have g1 := hx 1 f1 rfl
  have g2 := hx 2 f2 rfl
  rw [e1, ho.1, hcs.1, List.getElem?_eq_getElem (by omega)] at g0
  rw [e1, ho.2.1, hcs.2.1, List.getElem?_eq_getElem (by omega)] at g1
  rw [e1, ho.2.2, hcs.2.2, List.getElem?_eq_getElem (by omega)] at g2
  obtain ⟨s, hs, hsl⟩ := open_cu32 h0 g0
  obtain ⟨id, hi, hil⟩ := open_cu32 h1 g1
  obtain ⟨A, n, cap, l, hd, hrow, hn, hcap⟩ := open_cbytes h2 he hc g2
  simp at hs hi hd
  subst hs hi hd
  exact ⟨s, id, A, n, cap, l, rfl, hsl, hil, hrow, hn, hcap⟩
end Go.Proofs.Ytekaoodagaplmaa
