/- A state, a manifest that came in by value. -/
import Derived.Test.YtcgcmfhidolohaaDoorLawSymQ
import Derived.Test.YtcgcmfhidolohaaDoorLawCallQ
namespace Go.Proofs.YtcgcmfhidolohaaDoor
open Go.ChangeShapes Go.WideShapes Go.ChangeAt Go.RowKit
def I64 (x : Int) : Prop := -9223372036854775808 ≤ x ∧ x ≤ 9223372036854775807
/-- a byte slice that came in -/
def InRow (W : World) (A : Option Addr) (n c : Nat) (l : List UInt8) : Prop := Row W W.heap.size A n (bv l) ∧ n ≤ c ∧ c ≤ 9223372036854775807
theorem open_mancells {H : Type} {enc : TypeId × Value → H} {P : Program} {W : World} {t e : TypeId} {fuel : Nat} {cs : List Value} {x : DataW H × List MemPlace} {f0 f1 f2 f3 f4 f5 : Field}
    (ht : P.underlying t = some (.struct #[f0, f1, f2, f3, f4, f5])) (ho : f0.offset = 0 ∧ f1.offset = 1 ∧ f2.offset = 2 ∧ f3.offset = 3 ∧ f4.offset = 4 ∧ f5.offset = 5)
    (h0 : P.underlying f0.type = some (.int .u32)) (h1 : P.underlying f1.type = some (.int .u32)) (h2 : P.underlying f2.type = some (.int .i64)) (h3 : P.underlying f3.type = some (.int .i64)) (h4 : P.underlying f4.type = some (.int .i64)) (h5 : P.underlying f5.type = some (.slice e))
    (he : P.underlying e = some (.int .u8)) (hc : P.cellsOf e = 1) (hcs : P.cellsOf f0.type = 1 ∧ P.cellsOf f1.type = 1 ∧ P.cellsOf f2.type = 1 ∧ P.cellsOf f3.type = 1 ∧ P.cellsOf f4.type = 1 ∧ P.cellsOf f5.type = 1) (hct : P.cellsOf t = 6)
    (hf : DataW.trod enc P W 0 (fun _ => true) true fuel t cs = some x) :
    ∃ (s v : Nat) (l z p : Int) (A : Option Addr) (n c : Nat) (h : List UInt8), cs = [.int .u32 (s : Int), .int .u32 (v : Int), .int .i64 l, .int .i64 z, .int .i64 p, .slice A n c] ∧ s < 4294967296 ∧ v < 4294967296 ∧ I64 l ∧ I64 z ∧ I64 p ∧ InRow W A n c h := by
  obtain ⟨xs, m, _, _, hlen, hxl, hx⟩ := DataW.trod_struct ht hf
  rw [hct] at hlen
  match cs, hlen with
  | [c0, c1, c2, c3, c4, c5], _ =>
    have hxl4 : xs.length = 6 := hxl
    have g0 := hx 0 f0 rfl
    have g1 := hx 1 f1 rfl
    have g2 := hx 2 f2 rfl
    have g3 := hx 3 f3 rfl
    have g4 := hx 4 f4 rfl
    have g5 := hx 5 f5 rfl
    rw [ho.1, hcs.1, List.getElem?_eq_getElem (by omega)] at g0
    rw [ho.2.1, hcs.2.1, List.getElem?_eq_getElem (by omega)] at g1
    rw [ho.2.2.1, hcs.2.2.1, List.getElem?_eq_getElem (by omega)] at g2
    rw [ho.2.2.2.1, hcs.2.2.2.1, List.getElem?_eq_getElem (by omega)] at g3
    rw [ho.2.2.2.2.1, hcs.2.2.2.2.1, List.getElem?_eq_getElem (by omega)] at g4
    rw [ho.2.2.2.2.2, hcs.2.2.2.2.2, List.getElem?_eq_getElem (by omega)] at g5
    obtain ⟨s, hs, hsl⟩ := open_cu32 h0 g0
    obtain ⟨v, hv, hvl⟩ := open_cu32 h1 g1
    obtain ⟨l, hl, hll⟩ := open_ci64 h2 g2
    obtain ⟨z, hz, hzl⟩ := open_ci64 h3 g3
    obtain ⟨p, hp, hpl⟩ := open_ci64 h4 g4
    obtain ⟨A, k, cap, h, hh, hrow, hk, hcap⟩ := open_cbytes h5 he hc g5
    simp at hs hv hl hz hp hh
    subst hs hv hl hz hp hh
    exact ⟨s, v, l, z, p, A, k, cap, h, rfl, hsl, hvl, hll, hzl, hpl, hrow, hk, hcap⟩
theorem open_slotcells {H : Type} {enc : TypeId × Value → H} {P : Program} {W : World} {t e : TypeId} {fuel : Nat} {cs : List Value} {x : DataW H × List MemPlace} {f0 f1 f2 : Field}
    (ht : P.underlying t = some (.struct #[f0, f1, f2])) (ho : f0.offset = 0 ∧ f1.offset = 1 ∧ f2.offset = 2)
    (h0 : P.underlying f0.type = some (.int .u32)) (h1 : P.underlying f1.type = some (.int .i64)) (h2 : P.underlying f2.type = some (.slice e))
    (he : P.underlying e = some (.int .u8)) (hc : P.cellsOf e = 1) (hcs : P.cellsOf f0.type = 1 ∧ P.cellsOf f1.type = 1 ∧ P.cellsOf f2.type = 1) (hct : P.cellsOf t = 3)
    (hf : DataW.trod enc P W 0 (fun _ => true) true fuel t cs = some x) :
    ∃ (v : Nat) (l : Int) (A : Option Addr) (n c : Nat) (h : List UInt8), cs = [.int .u32 (v : Int), .int .i64 l, .slice A n c] ∧ v < 4294967296 ∧ I64 l ∧ InRow W A n c h := by
  obtain ⟨xs, m, _, _, hlen, hxl, hx⟩ := DataW.trod_struct ht hf
  rw [hct] at hlen
  match cs, hlen with
  | [c0, c1, c2], _ =>
    have hxl4 : xs.length = 3 := hxl
    have g0 := hx 0 f0 rfl
    have g1 := hx 1 f1 rfl
    have g2 := hx 2 f2 rfl
    rw [ho.1, hcs.1, List.getElem?_eq_getElem (by omega)] at g0
    rw [ho.2.1, hcs.2.1, List.getElem?_eq_getElem (by omega)] at g1
    rw [ho.2.2, hcs.2.2, List.getElem?_eq_getElem (by omega)] at g2
    obtain ⟨v, hv, hvl⟩ := open_cu32 h0 g0
    obtain ⟨l, hl, hll⟩ := open_ci64 h1 g1
    obtain ⟨A, k, cap, h, hh, hrow, hk, hcap⟩ := open_cbytes h2 he hc g2
    simp at hv hl hh
    subst hv hl hh
    exact ⟨v, l, A, k, cap, h, rfl, hvl, hll, hrow, hk, hcap⟩
section
variable {H : Type} {enc : TypeId × Value → H} {W : World} {base : Nat} {v : Value} {d : DataW H} {ps : List MemPlace}
theorem open_man6 {fuel : Nat} {cs : List Value} {x : DataW H × List MemPlace} (hf : DataW.trod enc Tryd.prog W 0 (fun _ => true) true fuel 25 cs = some x) :
    ∃ (s v : Nat) (l z p : Int) (A : Option Addr) (n c : Nat) (h : List UInt8), cs = [.int .u32 (s : Int), .int .u32 (v : Int), .int .i64 l, .int .i64 z, .int .i64 p, .slice A n c] ∧ s < 4294967296 ∧ v < 4294967296 ∧ I64 l ∧ I64 z ∧ I64 p ∧ InRow W A n c h :=
  open_mancells Tryd.underlying25 ⟨rfl, rfl, rfl, rfl, rfl, rfl⟩ Tryd.underlying22 Tryd.underlying22 Tryd.underlying3 Tryd.underlying3 Tryd.underlying3 Tryd.underlying23 Tryd.underlying5 Tryd.cells5 ⟨by kernel_rfl, by kernel_rfl, by kernel_rfl, by kernel_rfl, by kernel_rfl, by kernel_rfl⟩ (by kernel_rfl) hf
theorem open_man (hval : Value.okWide Tryd.prog W .any base 25 v) (h : DataW.Trod enc Tryd.prog W 0 (fun _ => true) true 25 v d ps) :
    ∃ (s u : Nat) (l z p : Int) (A : Option Addr) (n c : Nat) (h : List UInt8), v = .agg #[.int .u32 (s : Int), .int .u32 (u : Int), .int .i64 l, .int .i64 z, .int .i64 p, .slice A n c] ∧ s < 4294967296 ∧ u < 4294967296 ∧ I64 l ∧ I64 z ∧ I64 p ∧ InRow W A n c h := by
  have hv := hval
  unfold Value.okWide at hv
  rw [Tryd.underlying25] at hv
  obtain ⟨cs, rfl, hsz, _⟩ := hv
  obtain ⟨fuel, hf⟩ := h
  obtain ⟨s, u, l, z, p, A, n, c, hh, hy, hg⟩ := open_man6 hf
  refine ⟨s, u, l, z, p, A, n, c, hh, ?_, hg⟩
  have e1 : cs.toList = _ := hy
  rw [← Array.toArray_toList (xs := cs), e1]
end
end Go.Proofs.YtcgcmfhidolohaaDoor
