/- The tied card of downpourlaw21.BootBack: what may be stays so; so many starts without a Confirm lead back to what ran before, whole; with one ahead of that it runs on. For every input. -/
import Derived.Test.YtoclckfpbmglfaaDoorLaw
import Derived.Test.YtoclckfpbmglfaaDoorBootBk0
import Derived.Test.YtoclckfpbmglfaaDoorBootBk1
import Derived.Test.YtoclckfpbmglfaaDoorDgLaid
namespace Go.Proofs.YtoclckfpbmglfaaDoor
open Go.ChangeShapes Go.WideShapes Go.ChangeAt Go.RowKit
theorem open_cbytes {H : Type} {enc : TypeId × Value → H} {P : Program} {W : World} {t e : TypeId} {fuel : Nat} {cs : List Value} {x : DataW H × List MemPlace}
    (ht : P.underlying t = some (.slice e)) (he : P.underlying e = some (.int .u8)) (hc : P.cellsOf e = 1) (hf : DataW.trod enc P W 0 (fun _ => true) true fuel t cs = some x) :
    ∃ (A : Option Addr) (n cap : Nat) (l : List UInt8), cs = [.slice A n cap] ∧ Row W W.heap.size A n (bv l) ∧ n ≤ cap ∧ cap ≤ 9223372036854775807 := by
  rcases open_ints ht he hc hf with ⟨hcs, hx⟩ | ⟨a, len, cap, zs, hcs, _, hl, hm, hz, hx, hcell, hwz⟩
  · exact ⟨none, 0, 0, [], hcs, Row.nil _ _ _, Nat.le_refl _, by omega⟩
  · unfold maxLen at hm
    simp at hz
    refine ⟨_, _, _, _, hcs, row_of_ints (by omega) hcell hwz ?_, hl, by omega⟩
    rcases Nat.eq_zero_or_pos len with h0 | h0
    · exact .inr h0
    · left
      have := block_lt_of_cell (hcell 0 (by omega))
      simpa [Addr.add] using this
theorem open_cu32 {H : Type} {enc : TypeId × Value → H} {P : Program} {W : World} {t : TypeId} {fuel : Nat} {cs : List Value} {x : DataW H × List MemPlace}
    (ht : P.underlying t = some (.int .u32)) (hf : DataW.trod enc P W 0 (fun _ => true) true fuel t cs = some x) : ∃ n : Nat, cs = [.int .u32 (n : Int)] ∧ n < 4294967296 := by
  obtain ⟨x, hx, _, wx⟩ := DataW.trod_int ht hf
  have hb : 0 ≤ x ∧ x ≤ 4294967295 := by simpa [Lit.wf, IntKind.min, IntKind.max, IntKind.signed, IntKind.bits] using wx
  exact ⟨x.toNat, by rw [hx]; congr 2; omega, by omega⟩
theorem open_sym {H : Type} {enc : TypeId × Value → H} {P : Program} {W : World} {base : Nat} {t e : TypeId} {v : Value} {d : DataW H} {ps : List MemPlace} {f0 f1 f2 : Field}
    (ht : P.underlying t = some (.struct #[f0, f1, f2])) (ho : f0.offset = 0 ∧ f1.offset = 1 ∧ f2.offset = 2) (h0 : P.underlying f0.type = some (.int .u32)) (h1 : P.underlying f1.type = some (.int .u32)) (h2 : P.underlying f2.type = some (.slice e))
    (he : P.underlying e = some (.int .u8)) (hc : P.cellsOf e = 1) (hcs : P.cellsOf f0.type = 1 ∧ P.cellsOf f1.type = 1 ∧ P.cellsOf f2.type = 1) (hct : P.cellsOf t = 3)
    (hval : Value.okWide P W .any base t v) (h : DataW.Trod enc P W 0 (fun _ => true) true t v d ps) :
    ∃ (s id : Nat) (A : Option Addr) (n cap : Nat) (l : List UInt8), v = .agg #[.int .u32 (s : Int), .int .u32 (id : Int), .slice A n cap] ∧ s < 4294967296 ∧ id < 4294967296 ∧ Row W W.heap.size A n (bv l) ∧ n ≤ cap ∧ cap ≤ 9223372036854775807 := by
  have hv := hval
  unfold Value.okWide at hv
  rw [ht] at hv
  obtain ⟨cs, rfl, hsz, _⟩ := hv
  rw [hct] at hsz
  obtain ⟨fuel, hf⟩ := h
  obtain ⟨xs, m, _, _, _, hxl, hx⟩ := DataW.trod_struct ht hf
  obtain ⟨c0, c1, c2, rfl⟩ : ∃ c0 c1 c2, cs = #[c0, c1, c2] := by
    match cs, hsz with
    | ⟨[c0, c1, c2]⟩, _ => exact ⟨c0, c1, c2, rfl⟩
  have e1 : (Value.agg #[c0, c1, c2]).cells.toList = [c0, c1, c2] := rfl
  have hxl3 : xs.length = 3 := hxl
  have g0 := hx 0 f0 rfl
  have g1 := hx 1 f1 rfl
  have g2 := hx 2 f2 rfl
  rw [e1, ho.1, hcs.1, List.getElem?_eq_getElem (by omega)] at g0
  rw [e1, ho.2.1, hcs.2.1, List.getElem?_eq_getElem (by omega)] at g1
  rw [e1, ho.2.2, hcs.2.2, List.getElem?_eq_getElem (by omega)] at g2
  obtain ⟨s, hs, hsl⟩ := open_cu32 h0 g0
  obtain ⟨id, hi, hil⟩ := open_cu32 h1 g1
  obtain ⟨A, n, cap, l, hd, hrow, hn, hcap⟩ := open_cbytes h2 he hc g2
  simp at hs hi hd
  subst hs hi hd
  exact ⟨s, id, A, n, cap, l, rfl, hsl, hil, hrow, hn, hcap⟩
end Go.Proofs.YtoclckfpbmglfaaDoor
namespace Go.Proofs.YtoclckfpbmglfaaDoor
open Go.ChangeShapes Go.WideShapes Go.ChangeAt Go.RowKit
theorem open_ci64 {H : Type} {enc : TypeId × Value → H} {P : Program} {W : World} {t : TypeId} {fuel : Nat} {cs : List Value} {x : DataW H × List MemPlace}
    (ht : P.underlying t = some (.int .i64)) (hf : DataW.trod enc P W 0 (fun _ => true) true fuel t cs = some x) : ∃ n : Int, cs = [.int .i64 n] ∧ -9223372036854775808 ≤ n ∧ n ≤ 9223372036854775807 := by
  obtain ⟨x, hx, _, wx⟩ := DataW.trod_int ht hf
  have hb : -9223372036854775808 ≤ x ∧ x ≤ 9223372036854775807 := by simpa [Lit.wf, IntKind.min, IntKind.max, IntKind.signed, IntKind.bits] using wx
  exact ⟨x, hx, hb.1, hb.2⟩
theorem open_call {H : Type} {enc : TypeId × Value → H} {P : Program} {W : World} {base : Nat} {t : TypeId} {v : Value} {d : DataW H} {ps : List MemPlace} {f1 f2 f3 : Field}
    (ht : P.underlying t = some (.struct #[f1, f2, f3])) (ho : f1.offset = 0 ∧ f2.offset = 1 ∧ f3.offset = 2) (h1 : P.underlying f1.type = some (.int .i64)) (h2 : P.underlying f2.type = some (.int .i64)) (h3 : P.underlying f3.type = some (.int .i64))
    (hcs : P.cellsOf f1.type = 1 ∧ P.cellsOf f2.type = 1 ∧ P.cellsOf f3.type = 1) (hct : P.cellsOf t = 3)
    (hval : Value.okWide P W .any base t v) (h : DataW.Trod enc P W 0 (fun _ => true) true t v d ps) :
    ∃ (K L Z : Int), v = .agg #[.int .i64 K, .int .i64 L, .int .i64 Z] := by
  have hv := hval
  unfold Value.okWide at hv
  rw [ht] at hv
  obtain ⟨cs, rfl, hsz, _⟩ := hv
  rw [hct] at hsz
  obtain ⟨fuel, hf⟩ := h
  obtain ⟨xs, m, _, _, _, hxl, hx⟩ := DataW.trod_struct ht hf
  obtain ⟨c1, c2, c3, rfl⟩ : ∃ c1 c2 c3, cs = #[c1, c2, c3] := by
    match cs, hsz with
    | ⟨[c1, c2, c3]⟩, _ => exact ⟨c1, c2, c3, rfl⟩
  have e1 : (Value.agg #[c1, c2, c3]).cells.toList = [c1, c2, c3] := rfl
  have hxl4 : xs.length = 3 := hxl
  have g1 := hx 0 f1 rfl
  have g2 := hx 1 f2 rfl
  have g3 := hx 2 f3 rfl
  rw [e1, ho.1, hcs.1, List.getElem?_eq_getElem (by omega)] at g1
  rw [e1, ho.2.1, hcs.2.1, List.getElem?_eq_getElem (by omega)] at g2
  rw [e1, ho.2.2, hcs.2.2, List.getElem?_eq_getElem (by omega)] at g3
  obtain ⟨K, hK, hKl⟩ := open_ci64 h1 g1
  obtain ⟨L, hL, hLl⟩ := open_ci64 h2 g2
  obtain ⟨Z, hZ, hZl⟩ := open_ci64 h3 g3
  simp at hK hL hZ
  subst hK hL hZ
  exact ⟨K, L, Z, rfl⟩
end Go.Proofs.YtoclckfpbmglfaaDoor
namespace Go.Proofs.YtoclckfpbmglfaaDoor
open Go.ChangeShapes Go.WideShapes Go.ChangeAt Go.RowKit
def I64 (x : Int) : Prop := -9223372036854775808 ≤ x ∧ x ≤ 9223372036854775807
/-- a byte slice that came in -/
def InRow (W : World) (A : Option Addr) (n c : Nat) (l : List UInt8) : Prop := Row W W.heap.size A n (bv l) ∧ n ≤ c ∧ c ≤ 9223372036854775807
theorem open_mancells {H : Type} {enc : TypeId × Value → H} {P : Program} {W : World} {t e : TypeId} {fuel : Nat} {cs : List Value} {x : DataW H × List MemPlace} {f0 f1 f2 f3 f4 f5 : Field}
    (ht : P.underlying t = some (.struct #[f0, f1, f2, f3, f4, f5])) (ho : f0.offset = 0 ∧ f1.offset = 1 ∧ f2.offset = 2 ∧ f3.offset = 3 ∧ f4.offset = 4 ∧ f5.offset = 5)
    (h0 : P.underlying f0.type = some (.int .u32)) (h1 : P.underlying f1.type = some (.int .u32)) (h2 : P.underlying f2.type = some (.int .i64)) (h3 : P.underlying f3.type = some (.int .i64)) (h4 : P.underlying f4.type = some (.int .i64)) (h5 : P.underlying f5.type = some (.slice e))
    (he : P.underlying e = some (.int .u8)) (hc : P.cellsOf e = 1) (hcs : P.cellsOf f0.type = 1 ∧ P.cellsOf f1.type = 1 ∧ P.cellsOf f2.type = 1 ∧ P.cellsOf f3.type = 1 ∧ P.cellsOf f4.type = 1 ∧ P.cellsOf f5.type = 1) (hct : P.cellsOf t = 6)
    (hf : DataW.trod enc P W 0 (fun _ => true) true fuel t cs = some x) :
    ∃ (s v : Nat) (l z p : Int) (A : Option Addr) (n c : Nat) (h : List UInt8), cs = [.int .u32 (s : Int), .int .u32 (v : Int), .int .i64 l, .int .i64 z, .int .i64 p, .slice A n c] ∧ s < 4294967296 ∧ v < 4294967296 ∧ I64 l ∧ I64 z ∧ I64 p ∧ InRow W A n c h := by
  obtain ⟨xs, m, _, _, hlen, hxl, hx⟩ := DataW.trod_struct ht hf
  rw [hct] at hlen
  match cs, hlen with
  | [c0, c1, c2, c3, c4, c5], _ =>
    have hxl4 : xs.length = 6 := hxl
    have g0 := hx 0 f0 rfl
    have g1 := hx 1 f1 rfl
    have g2 := hx 2 f2 rfl
    have g3 := hx 3 f3 rfl
    have g4 := hx 4 f4 rfl
    have g5 := hx 5 f5 rfl
    rw [ho.1, hcs.1, List.getElem?_eq_getElem (by omega)] at g0
    rw [ho.2.1, hcs.2.1, List.getElem?_eq_getElem (by omega)] at g1
    rw [ho.2.2.1, hcs.2.2.1, List.getElem?_eq_getElem (by omega)] at g2
    rw [ho.2.2.2.1, hcs.2.2.2.1, List.getElem?_eq_getElem (by omega)] at g3
    rw [ho.2.2.2.2.1, hcs.2.2.2.2.1, List.getElem?_eq_getElem (by omega)] at g4
    rw [ho.2.2.2.2.2, hcs.2.2.2.2.2, List.getElem?_eq_getElem (by omega)] at g5
    obtain ⟨s, hs, hsl⟩ := open_cu32 h0 g0
    obtain ⟨v, hv, hvl⟩ := open_cu32 h1 g1
    obtain ⟨l, hl, hll⟩ := open_ci64 h2 g2
    obtain ⟨z, hz, hzl⟩ := open_ci64 h3 g3
    obtain ⟨p, hp, hpl⟩ := open_ci64 h4 g4
    obtain ⟨A, k, cap, h, hh, hrow, hk, hcap⟩ := open_cbytes h5 he hc g5
    simp at hs hv hl hz hp hh
    subst hs hv hl hz hp hh
    exact ⟨s, v, l, z, p, A, k, cap, h, rfl, hsl, hvl, hll, hzl, hpl, hrow, hk, hcap⟩
theorem open_slotcells {H : Type} {enc : TypeId × Value → H} {P : Program} {W : World} {t e : TypeId} {fuel : Nat} {cs : List Value} {x : DataW H × List MemPlace} {f0 f1 f2 : Field}
    (ht : P.underlying t = some (.struct #[f0, f1, f2])) (ho : f0.offset = 0 ∧ f1.offset = 1 ∧ f2.offset = 2)
    (h0 : P.underlying f0.type = some (.int .u32)) (h1 : P.underlying f1.type = some (.int .i64)) (h2 : P.underlying f2.type = some (.slice e))
    (he : P.underlying e = some (.int .u8)) (hc : P.cellsOf e = 1) (hcs : P.cellsOf f0.type = 1 ∧ P.cellsOf f1.type = 1 ∧ P.cellsOf f2.type = 1) (hct : P.cellsOf t = 3)
    (hf : DataW.trod enc P W 0 (fun _ => true) true fuel t cs = some x) :
    ∃ (v : Nat) (l : Int) (A : Option Addr) (n c : Nat) (h : List UInt8), cs = [.int .u32 (v : Int), .int .i64 l, .slice A n c] ∧ v < 4294967296 ∧ I64 l ∧ InRow W A n c h := by
  obtain ⟨xs, m, _, _, hlen, hxl, hx⟩ := DataW.trod_struct ht hf
  rw [hct] at hlen
  match cs, hlen with
  | [c0, c1, c2], _ =>
    have hxl4 : xs.length = 3 := hxl
    have g0 := hx 0 f0 rfl
    have g1 := hx 1 f1 rfl
    have g2 := hx 2 f2 rfl
    rw [ho.1, hcs.1, List.getElem?_eq_getElem (by omega)] at g0
    rw [ho.2.1, hcs.2.1, List.getElem?_eq_getElem (by omega)] at g1
    rw [ho.2.2, hcs.2.2, List.getElem?_eq_getElem (by omega)] at g2
    obtain ⟨v, hv, hvl⟩ := open_cu32 h0 g0
    obtain ⟨l, hl, hll⟩ := open_ci64 h1 g1
    obtain ⟨A, k, cap, h, hh, hrow, hk, hcap⟩ := open_cbytes h2 he hc g2
    simp at hv hl hh
    subst hv hl hh
    exact ⟨v, l, A, k, cap, h, rfl, hvl, hll, hrow, hk, hcap⟩
section
variable {H : Type} {enc : TypeId × Value → H} {W : World} {base : Nat} {v : Value} {d : DataW H} {ps : List MemPlace}
theorem open_slot17 {fuel : Nat} {cs : List Value} {x : DataW H × List MemPlace} (hf : DataW.trod enc Tryd.prog W 0 (fun _ => true) true fuel 25 cs = some x) :
    ∃ (v : Nat) (l : Int) (A : Option Addr) (n c : Nat) (h : List UInt8), cs = [.int .u32 (v : Int), .int .i64 l, .slice A n c] ∧ v < 4294967296 ∧ I64 l ∧ InRow W A n c h :=
  open_slotcells Tryd.underlying25 ⟨rfl, rfl, rfl⟩ Tryd.underlying22 Tryd.underlying3 Tryd.underlying23 Tryd.underlying5 Tryd.cells5 ⟨by kernel_rfl, by kernel_rfl, by kernel_rfl⟩ (by kernel_rfl) hf
theorem open_man6 {fuel : Nat} {cs : List Value} {x : DataW H × List MemPlace} (hf : DataW.trod enc Tryd.prog W 0 (fun _ => true) true fuel 28 cs = some x) :
    ∃ (s v : Nat) (l z p : Int) (A : Option Addr) (n c : Nat) (h : List UInt8), cs = [.int .u32 (s : Int), .int .u32 (v : Int), .int .i64 l, .int .i64 z, .int .i64 p, .slice A n c] ∧ s < 4294967296 ∧ v < 4294967296 ∧ I64 l ∧ I64 z ∧ I64 p ∧ InRow W A n c h :=
  open_mancells Tryd.underlying28 ⟨rfl, rfl, rfl, rfl, rfl, rfl⟩ Tryd.underlying22 Tryd.underlying22 Tryd.underlying3 Tryd.underlying3 Tryd.underlying3 Tryd.underlying23 Tryd.underlying5 Tryd.cells5 ⟨by kernel_rfl, by kernel_rfl, by kernel_rfl, by kernel_rfl, by kernel_rfl, by kernel_rfl⟩ (by kernel_rfl) hf
theorem open_man (hval : Value.okWide Tryd.prog W .any base 28 v) (h : DataW.Trod enc Tryd.prog W 0 (fun _ => true) true 28 v d ps) :
    ∃ (s u : Nat) (l z p : Int) (A : Option Addr) (n c : Nat) (h : List UInt8), v = .agg #[.int .u32 (s : Int), .int .u32 (u : Int), .int .i64 l, .int .i64 z, .int .i64 p, .slice A n c] ∧ s < 4294967296 ∧ u < 4294967296 ∧ I64 l ∧ I64 z ∧ I64 p ∧ InRow W A n c h := by
  have hv := hval
  unfold Value.okWide at hv
  rw [Tryd.underlying28] at hv
  obtain ⟨cs, rfl, hsz, _⟩ := hv
  obtain ⟨fuel, hf⟩ := h
  obtain ⟨s, u, l, z, p, A, n, c, hh, hy, hg⟩ := open_man6 hf
  refine ⟨s, u, l, z, p, A, n, c, hh, ?_, hg⟩
  have e1 : cs.toList = _ := hy
  rw [← Array.toArray_toList (xs := cs), e1]
theorem open_slots6 {fuel : Nat} {cs : List Value} {x : DataW H × List MemPlace} (hf : DataW.trod enc Tryd.prog W 0 (fun _ => true) true fuel 26 cs = some x) :
    ∃ (v0 : Nat) (l0 : Int) (A0 : Option Addr) (n0 c0 : Nat) (h0 : List UInt8) (v1 : Nat) (l1 : Int) (A1 : Option Addr) (n1 c1 : Nat) (h1 : List UInt8),
      cs = [.int .u32 (v0 : Int), .int .i64 l0, .slice A0 n0 c0, .int .u32 (v1 : Int), .int .i64 l1, .slice A1 n1 c1] ∧ v0 < 4294967296 ∧ I64 l0 ∧ InRow W A0 n0 c0 h0 ∧ v1 < 4294967296 ∧ I64 l1 ∧ InRow W A1 n1 c1 h1 := by
  obtain ⟨xs, m, _, _, hlen, hxl, hx⟩ := DataW.trod_array Tryd.underlying26 hf
  have hct : Tryd.prog.cellsOf 26 = 6 := by kernel_rfl
  have hcs : Tryd.prog.cellsOf 25 = 3 := by kernel_rfl
  rw [hct] at hlen
  match cs, hlen with
  | [a0, a1, a2, a3, a4, a5], _ =>
    have g0 := hx 0 (by omega)
    have g1 := hx 1 (by omega)
    rw [hcs, List.getElem?_eq_getElem (by omega)] at g0
    rw [hcs, List.getElem?_eq_getElem (by omega)] at g1
    obtain ⟨v0, l0, A0, n0, c0, h0, e0, b0, i0, r0⟩ := open_slot17 g0
    obtain ⟨v1, l1, A1, n1, c1, h1, e1, b1, i1, r1⟩ := open_slot17 g1
    simp at e0 e1
    obtain ⟨rfl, rfl, rfl⟩ := e0
    obtain ⟨rfl, rfl, rfl⟩ := e1
    exact ⟨v0, l0, A0, n0, c0, h0, v1, l1, A1, n1, c1, h1, rfl, b0, i0, r0, b1, i1, r1⟩
theorem open_state (hval : Value.okWide Tryd.prog W .any base 30 v) (h : DataW.Trod enc Tryd.prog W 0 (fun _ => true) true 30 v d ps) :
    ∃ (act trial : Int) (flo gen v0 : Nat) (l0 : Int) (A0 : Option Addr) (n0 c0 : Nat) (h0 : List UInt8) (v1 : Nat) (l1 : Int) (A1 : Option Addr) (n1 c1 : Nat) (h1 : List UInt8) (on : Bool) (s u : Nat) (l z p : Int) (A : Option Addr) (n c : Nat) (h : List UInt8),
      v = .agg #[.int .i64 act, .int .i64 trial, .int .u32 (flo : Int), .int .u32 (gen : Int), .int .u32 (v0 : Int), .int .i64 l0, .slice A0 n0 c0, .int .u32 (v1 : Int), .int .i64 l1, .slice A1 n1 c1, .bool on, .int .u32 (s : Int), .int .u32 (u : Int), .int .i64 l, .int .i64 z, .int .i64 p, .slice A n c] ∧
      I64 act ∧ I64 trial ∧ flo < 4294967296 ∧ gen < 4294967296 ∧ v0 < 4294967296 ∧ I64 l0 ∧ InRow W A0 n0 c0 h0 ∧ v1 < 4294967296 ∧ I64 l1 ∧ InRow W A1 n1 c1 h1 ∧ s < 4294967296 ∧ u < 4294967296 ∧ I64 l ∧ I64 z ∧ I64 p ∧ InRow W A n c h := by
  have hv := hval
  unfold Value.okWide at hv
  rw [Tryd.underlying30] at hv
  obtain ⟨cs, rfl, hsz, _⟩ := hv
  obtain ⟨fuel, hf⟩ := h
  obtain ⟨xs, m, _, _, hlen, hxl, hx⟩ := DataW.trod_struct Tryd.underlying30 hf
  have hct : Tryd.prog.cellsOf 30 = 17 := by kernel_rfl
  have k1 : Tryd.prog.cellsOf 3 = 1 := by kernel_rfl
  have k2 : Tryd.prog.cellsOf 22 = 1 := by kernel_rfl
  have k3 : Tryd.prog.cellsOf 26 = 6 := by kernel_rfl
  have k4 : Tryd.prog.cellsOf 4 = 1 := by kernel_rfl
  have k5 : Tryd.prog.cellsOf 28 = 6 := by kernel_rfl
  rw [hct] at hlen
  have hsz17 : cs.size = 17 := hlen
  obtain ⟨q0, q1, q2, q3, q4, q5, q6, q7, q8, q9, q10, q11, q12, q13, q14, q15, q16, rfl⟩ : ∃ q0 q1 q2 q3 q4 q5 q6 q7 q8 q9 q10 q11 q12 q13 q14 q15 q16, cs = #[q0, q1, q2, q3, q4, q5, q6, q7, q8, q9, q10, q11, q12, q13, q14, q15, q16] := by
    match cs, hsz17 with
    | ⟨[q0, q1, q2, q3, q4, q5, q6, q7, q8, q9, q10, q11, q12, q13, q14, q15, q16]⟩, _ => exact ⟨_, _, _, _, _, _, _, _, _, _, _, _, _, _, _, _, _, rfl⟩
  have hxl7 : xs.length = 7 := hxl
  have g0 : DataW.trod enc Tryd.prog W 0 (fun _ => true) true m 3 (([q0, q1, q2, q3, q4, q5, q6, q7, q8, q9, q10, q11, q12, q13, q14, q15, q16].drop 0).take (Tryd.prog.cellsOf 3)) = xs[0]? := hx 0 _ rfl
  have g1 : DataW.trod enc Tryd.prog W 0 (fun _ => true) true m 3 (([q0, q1, q2, q3, q4, q5, q6, q7, q8, q9, q10, q11, q12, q13, q14, q15, q16].drop 1).take (Tryd.prog.cellsOf 3)) = xs[1]? := hx 1 _ rfl
  have g2 : DataW.trod enc Tryd.prog W 0 (fun _ => true) true m 22 (([q0, q1, q2, q3, q4, q5, q6, q7, q8, q9, q10, q11, q12, q13, q14, q15, q16].drop 2).take (Tryd.prog.cellsOf 22)) = xs[2]? := hx 2 _ rfl
  have g3 : DataW.trod enc Tryd.prog W 0 (fun _ => true) true m 22 (([q0, q1, q2, q3, q4, q5, q6, q7, q8, q9, q10, q11, q12, q13, q14, q15, q16].drop 3).take (Tryd.prog.cellsOf 22)) = xs[3]? := hx 3 _ rfl
  have g4 : DataW.trod enc Tryd.prog W 0 (fun _ => true) true m 26 (([q0, q1, q2, q3, q4, q5, q6, q7, q8, q9, q10, q11, q12, q13, q14, q15, q16].drop 4).take (Tryd.prog.cellsOf 26)) = xs[4]? := hx 4 _ rfl
  have g5 : DataW.trod enc Tryd.prog W 0 (fun _ => true) true m 4 (([q0, q1, q2, q3, q4, q5, q6, q7, q8, q9, q10, q11, q12, q13, q14, q15, q16].drop 10).take (Tryd.prog.cellsOf 4)) = xs[5]? := hx 5 _ rfl
  have g6 : DataW.trod enc Tryd.prog W 0 (fun _ => true) true m 28 (([q0, q1, q2, q3, q4, q5, q6, q7, q8, q9, q10, q11, q12, q13, q14, q15, q16].drop 11).take (Tryd.prog.cellsOf 28)) = xs[6]? := hx 6 _ rfl
  rw [List.getElem?_eq_getElem (by omega)] at g0 g1 g2 g3 g4 g5 g6
  rw [k1] at g0 g1
  rw [k2] at g2 g3
  rw [k3] at g4
  rw [k4] at g5
  rw [k5] at g6
  obtain ⟨act, ha, hal⟩ := open_ci64 Tryd.underlying3 g0
  obtain ⟨trial, ht, htl⟩ := open_ci64 Tryd.underlying3 g1
  obtain ⟨flo, hf2, hfl⟩ := open_cu32 Tryd.underlying22 g2
  obtain ⟨gen, hg, hgl⟩ := open_cu32 Tryd.underlying22 g3
  obtain ⟨v0, l0, A0, n0, c0, h0, v1, l1, A1, n1, c1, h1, hs, r⟩ := open_slots6 g4
  obtain ⟨on, ho, _⟩ := DataW.trod_bool Tryd.underlying4 g5
  obtain ⟨s, u, l, z, p, A, n, c, hh, hm, rm⟩ := open_man6 g6
  simp at ha ht hf2 hg hs ho hm
  obtain ⟨rfl, rfl, rfl, rfl, rfl, rfl⟩ := hs
  obtain ⟨rfl, rfl, rfl, rfl, rfl, rfl⟩ := hm
  subst ha ht hf2 hg ho
  exact ⟨act, trial, flo, gen, v0, l0, A0, n0, c0, h0, v1, l1, A1, n1, c1, h1, on, s, u, l, z, p, A, n, c, hh, rfl, hal, htl, hfl, hgl, r.1, r.2.1, r.2.2.1, r.2.2.2.1, r.2.2.2.2.1, r.2.2.2.2.2, rm⟩
end
end Go.Proofs.YtoclckfpbmglfaaDoor
namespace Go.Proofs.YtoclckfpbmglfaaDoor
open Go.RowKit Sh
theorem bback_walk (cs : Array Value) (k : Int) (L : LSt) (w : World) (ht : Tab w) (hs : IsSt w (fun _ => True) cs L) :
    Calls Tryd.prog 3 #[.agg cs, .int .i64 k] w fun e w' => e = .returned (.bool true) ∧ Below w.heap.size w w' := by
  by_cases h : L.act = 1
  · exact bback_1 cs k L w ht hs (by omega)
  · exact bback_0 cs k L w ht hs h
end Go.Proofs.YtoclckfpbmglfaaDoor
namespace Go.Proofs.YtoclckfpbmglfaaDoor
open Go.RowKit Go.ChangeShapes Go.WideShapes Go.ChangeAt Sh
set_option maxRecDepth 100000 in
theorem bootBack_lifted (os : Os) (started : os.Started) (H : Type) (enc : TypeId × Value → H) :
    ReturnsInHanded {} Tryd.checked os 3 .any (fun w args => (Rows.bootBackSpec.pre enc Tryd.prog Tryd.f3 [] false w args ∧ laidMetH Tryd.prog L0 w) ∧ sizedMet enc Tryd.prog Tryd.f3 (OpenSpec.ofChange Rows.bootBackSpec) false w args) (Rows.bootBackSpec.post enc Tryd.prog Tryd.f3 false true false false) := by
  refine law_lift_laid (C := Tryd.checked) (tb := 4) (X := fun w _ => laidMetH Tryd.prog L0 w) (fun _ _ _ hh h => h.of_heap hh) Tryd.own started (by kernel_rfl) Tryd.func3
    (ChangeSpec.witness_shaped (enc := enc) (C := Tryd.checked) (os := os) (X := fun w _ => laidMetH Tryd.prog L0 w) false (World.doorLaid Tryd.prog 400 os) #[.agg #[.int .i64 0, .int .i64 0, .int .u32 0, .int .u32 0, .int .u32 0, .int .i64 0, .slice none 0 0, .int .u32 0, .int .i64 0, .slice none 0 0, .bool false, .int .u32 0, .int .u32 0, .int .i64 0, .int .i64 0, .int .i64 0, .slice none 0 0], .int .i64 0] 8 rfl (World.shaped_of_RefB (by kernel_rfl) (by kernel_rfl)) (by kernel_rfl) (by kernel_rfl) (by kernel_rfl) (door_met os _)) Tryd.laidOut (by kernel_rfl) rfl rfl Tryd.underlying4 ?_ ?_
  · intro ds hds
    match ds, hds with
    | [_, _], _ => rfl
  intro W base args ds p hval0 hA0 _ _ hsz0 hX0
  have hval : ∀ (j : Nat) t v, Tryd.f3.params[j]? = some t → args[j]? = some v → Value.okWide Tryd.prog W .any base t v := hval0
  have hA : DataW.TrodAll enc Tryd.prog W 0 (fun _ => true) true Tryd.f3.params.toList args.toList ds p := hA0
  rw [Tryd.params3] at hA hval
  obtain ⟨v0, v1, d0, d1, p0, p1, rfl, rfl, rfl, h0, h1⟩ := trodAll_two hA
  obtain ⟨act0, trial0, flo0, gen0, va0, la0, Aa0, na0, ca0, ha0, vb0, lb0, Ab0, nb0, cb0, hb0, on0, s0, u0, l0, z0, p0, A0, n0, c0, h_0, rfl, k1_0, k2_0, k3_0, k4_0, k5_0, k6_0, k7_0, k8_0, k9_0, k10_0, k11_0, k12_0, k13_0, k14_0, k15_0, k16_0⟩ := open_state (hval 0 30 v0 rfl rfl) h0
  obtain ⟨x1, rfl, hx1, hy1⟩ := open_i64 Tryd.underlying3 (hval 1 3 v1 rfl rfl) h1
  exact bback_walk _ x1 _ W (tab_of_laid hX0) (st_in k7_0.1 k10_0.1 k16_0.1)

theorem bootBack_holds : Rows.BootBackSaid :=
  OpenClaim.holds_of_wide 3 Tryd.f3 rfl rfl rfl rfl rfl rfl rfl ⟨rfl, rfl, rfl, rfl, rfl⟩ rfl rfl rfl rfl rfl (by kernel_rfl) Tryd.func3 (by kernel_rfl)
    (of_decide_eq_true (by kernel_rfl)) (by unfold Func.isWrapper; rw [if_neg (of_decide_eq_false (by kernel_rfl))]; exact ⟨rfl, rfl⟩)
    (fun os started H enc _ => bootBack_lifted os started H enc)

theorem bootBack_card : Rows.BootBackCardSaid :=
  Claim7.holds_tied_plain_at .later [] [.data, .data] true _ false
    bootBack_holds (fun _ h => by cases h) (by kernel_rfl) (fun _ h => by cases h) bootBack_row_tie rfl ⟨rfl, rfl⟩ (by kernel_rfl) rfl
    (fun f fn hf hfn => by
      obtain rfl : f = 3 := Option.some.inj ((show Tryd.prog.funcNamed "downpour/downpourlaw21.BootBack" = some 3 by kernel_rfl).symm.trans hf) |>.symm
      obtain rfl : fn = Tryd.f3 := (Option.some.inj (Tryd.func3.symm.trans hfn)).symm
      exact ⟨by kernel_rfl, fun j t ht => by
        rw [Tryd.params3] at ht
        have hm : t ∈ [30, 3] := by simpa using Array.mem_of_getElem? ht
        have hall : ([30, 3].all fun u => !Tryd.prog.wantsStandIn u) = true := by kernel_rfl
        exact (show Tryd.prog.wantsStandIn t = false by simpa using List.all_eq_true.1 hall t hm)⟩)
    (by kernel_rfl)
end Go.Proofs.YtoclckfpbmglfaaDoor
