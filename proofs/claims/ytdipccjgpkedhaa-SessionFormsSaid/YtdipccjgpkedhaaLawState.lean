/- A state, a manifest that came in by value. -/
import Derived.Test.YtdipccjgpkedhaaLawSym
import Derived.Test.YtdipccjgpkedhaaLawCall
namespace Go.Proofs.Ytdipccjgpkedhaa
open Go.ChangeShapes Go.WideShapes Go.ChangeAt Go.RowKit
def I64 (x : Int) : Prop := -9223372036854775808 ≤ x ∧ x ≤ 9223372036854775807
/-- a byte slice that came in -/
def InRow (W : World) (A : Option Addr) (n c : Nat) (l : List UInt8) : Prop := Row W W.heap.size A n (bv l) ∧ n ≤ c ∧ c ≤ 9223372036854775807
theorem open_mancells {H : Type} {enc : TypeId × Value → H} {P : Program} {W : World} {t e : TypeId} {fuel : Nat} {cs : List Value} {x : DataW H × List MemPlace} {f0 f1 f2 f3 f4 f5 : Field}
    (ht : P.underlying t = some (.struct #[f0, f1, f2, f3, f4, f5])) (ho : f0.offset = 0 ∧ f1.offset = 1 ∧ f2.offset = 2 ∧ f3.offset = 3 ∧ f4.offset = 4 ∧ f5.offset = 5)
    (h0 : P.underlying f0.type = some (.int .u32)) (h1 : P.underlying f1.type = some (.int .u32)) (h2 : P.underlying f2.type = some (.int .i64)) (h3 : P.underlying f3.type = some (.int .i64)) (h4 : P.underlying f4.type = some (.int .i64)) (h5 : P.underlying f5.type = some (.slice e))
    (he : P.underlying e = some (.int .u8)) (hc : P.cellsOf e = 1) (hcs : P.cellsOf f0.type = 1 ∧ P.cellsOf f1.type = 1 ∧ P.cellsOf f2.type = 1 ∧ P.cellsOf f3.type = 1 ∧ P.cellsOf f4.type = 1 ∧ P.cellsOf f5.type = 1) (hct : P.cellsOf t = 6)
    (hf : DataW.trod enc P W 0 (fun _ => true) true fuel t cs = some x) :
    ∃ (s v : Nat) (l z p : Int) (A : Option Addr) (n c : Nat) (h : List UInt8), cs = [.int .u32 (s : Int), .int .u32 (v : Int), .int .i64 l, .int .i64 z, .int .i64 p, .slice A n c] ∧ s < 4294967296 ∧ v < 4294967296 ∧ I64 l ∧ I64 z ∧ I64 p ∧ InRow W A n c h := by
  obtain ⟨xs, m, _, _, hlen, hxl, hx⟩ := DataW.trod_struct ht hf
  rw [hct] at hlen
  match cs, hlen with
  | [c0, c1, c2, c3, c4, c5], _ =>
    have hxl4 : xs.length = 6 := hxl
    have g0 := hx 0 f0 rfl
    have g1 := hx 1 f1 rfl
    have g2 := hx 2 f2 rfl
    have g3 := hx 3 f3 rfl
    have g4 := hx 4 f4 rfl
    have g5 := hx 5 f5 rfl
    rw [ho.1, hcs.1, List.getElem?_eq_getElem (by omega)] at g0
    rw [ho.2.1, hcs.2.1, List.getElem?_eq_getElem (by omega)] at g1
    rw [ho.2.2.1, hcs.2.2.1, List.getElem?_eq_getElem (by omega)] at g2
    rw [ho.2.2.2.1, hcs.2.2.2.1, List.getElem?_eq_getElem (by omega)] at g3
    rw [ho.2.2.2.2.1, hcs.2.2.2.2.1, List.getElem?_eq_getElem (by omega)] at g4
    rw [ho.2.2.2.2.2, hcs.2.2.2.2.2, List.getElem?_eq_getElem (by omega)] at g5
    obtain ⟨s, hs, hsl⟩ := open_cu32 h0 g0
    obtain ⟨v, hv, hvl⟩ := open_cu32 h1 g1
    obtain ⟨l, hl, hll⟩ := open_ci64 h2 g2
    obtain ⟨z, hz, hzl⟩ := open_ci64 h3 g3
    obtain ⟨p, hp, hpl⟩ := open_ci64 h4 g4
    obtain ⟨A, k, cap, h, hh, hrow, hk, hcap⟩ := open_cbytes h5 he hc g5
    simp at hs hv hl hz hp hh
    subst hs hv hl hz hp hh
    exact ⟨s, v, l, z, p, A, k, cap, h, rfl, hsl, hvl, hll, hzl, hpl, hrow, hk, hcap⟩
theorem open_slotcells {H : Type} {enc : TypeId × Value → H} {P : Program} {W : World} {t e : TypeId} {fuel : Nat} {cs : List Value} {x : DataW H × List MemPlace} {f0 f1 f2 : Field}
    (ht : P.underlying t = some (.struct #[f0, f1, f2])) (ho : f0.offset = 0 ∧ f1.offset = 1 ∧ f2.offset = 2)
    (h0 : P.underlying f0.type = some (.int .u32)) (h1 : P.underlying f1.type = some (.int .i64)) (h2 : P.underlying f2.type = some (.slice e))
    (he : P.underlying e = some (.int .u8)) (hc : P.cellsOf e = 1) (hcs : P.cellsOf f0.type = 1 ∧ P.cellsOf f1.type = 1 ∧ P.cellsOf f2.type = 1) (hct : P.cellsOf t = 3)
    (hf : DataW.trod enc P W 0 (fun _ => true) true fuel t cs = some x) :
    ∃ (v : Nat) (l : Int) (A : Option Addr) (n c : Nat) (h : List UInt8), cs = [.int .u32 (v : Int), .int .i64 l, .slice A n c] ∧ v < 4294967296 ∧ I64 l ∧ InRow W A n c h := by
  obtain ⟨xs, m, _, _, hlen, hxl, hx⟩ := DataW.trod_struct ht hf
  rw [hct] at hlen
  match cs, hlen with
  | [c0, c1, c2], _ =>
    have hxl4 : xs.length = 3 := hxl
    have g0 := hx 0 f0 rfl
    have g1 := hx 1 f1 rfl
    have g2 := hx 2 f2 rfl
    rw [ho.1, hcs.1, List.getElem?_eq_getElem (by omega)] at g0
    rw [ho.2.1, hcs.2.1, List.getElem?_eq_getElem (by omega)] at g1
    rw [ho.2.2, hcs.2.2, List.getElem?_eq_getElem (by omega)] at g2
    obtain ⟨v, hv, hvl⟩ := open_cu32 h0 g0
    obtain ⟨l, hl, hll⟩ := open_ci64 h1 g1
    obtain ⟨A, k, cap, h, hh, hrow, hk, hcap⟩ := open_cbytes h2 he hc g2
    simp at hv hl hh
    subst hv hl hh
    exact ⟨v, l, A, k, cap, h, rfl, hvl, hll, hrow, hk, hcap⟩
section
variable {H : Type} {enc : TypeId × Value → H} {W : World} {base : Nat} {v : Value} {d : DataW H} {ps : List MemPlace}
theorem open_slot17 {fuel : Nat} {cs : List Value} {x : DataW H × List MemPlace} (hf : DataW.trod enc Try.prog W 0 (fun _ => true) true fuel 25 cs = some x) :
    ∃ (v : Nat) (l : Int) (A : Option Addr) (n c : Nat) (h : List UInt8), cs = [.int .u32 (v : Int), .int .i64 l, .slice A n c] ∧ v < 4294967296 ∧ I64 l ∧ InRow W A n c h :=
  open_slotcells Try.underlying25 ⟨rfl, rfl, rfl⟩ Try.underlying22 Try.underlying3 Try.underlying23 Try.underlying5 Try.cells5 ⟨by kernel_rfl, by kernel_rfl, by kernel_rfl⟩ (by kernel_rfl) hf
theorem open_man6 {fuel : Nat} {cs : List Value} {x : DataW H × List MemPlace} (hf : DataW.trod enc Try.prog W 0 (fun _ => true) true fuel 28 cs = some x) :
    ∃ (s v : Nat) (l z p : Int) (A : Option Addr) (n c : Nat) (h : List UInt8), cs = [.int .u32 (s : Int), .int .u32 (v : Int), .int .i64 l, .int .i64 z, .int .i64 p, .slice A n c] ∧ s < 4294967296 ∧ v < 4294967296 ∧ I64 l ∧ I64 z ∧ I64 p ∧ InRow W A n c h :=
  open_mancells Try.underlying28 ⟨rfl, rfl, rfl, rfl, rfl, rfl⟩ Try.underlying22 Try.underlying22 Try.underlying3 Try.underlying3 Try.underlying3 Try.underlying23 Try.underlying5 Try.cells5 ⟨by kernel_rfl, by kernel_rfl, by kernel_rfl, by kernel_rfl, by kernel_rfl, by kernel_rfl⟩ (by kernel_rfl) hf
theorem open_man (hval : Value.okWide Try.prog W .any base 28 v) (h : DataW.Trod enc Try.prog W 0 (fun _ => true) true 28 v d ps) :
    ∃ (s u : Nat) (l z p : Int) (A : Option Addr) (n c : Nat) (h : List UInt8), v = .agg #[.int .u32 (s : Int), .int .u32 (u : Int), .int .i64 l, .int .i64 z, .int .i64 p, .slice A n c] ∧ s < 4294967296 ∧ u < 4294967296 ∧ I64 l ∧ I64 z ∧ I64 p ∧ InRow W A n c h := by
  have hv := hval
  unfold Value.okWide at hv
  rw [Try.underlying28] at hv
  obtain ⟨cs, rfl, hsz, _⟩ := hv
  obtain ⟨fuel, hf⟩ := h
  obtain ⟨s, u, l, z, p, A, n, c, hh, hy, hg⟩ := open_man6 hf
  refine ⟨s, u, l, z, p, A, n, c, hh, ?_, hg⟩
  have e1 : cs.toList = _ := hy
  rw [← Array.toArray_toList (xs := cs), e1]
theorem open_slots6 {fuel : Nat} {cs : List Value} {x : DataW H × List MemPlace} (hf : DataW.trod enc Try.prog W 0 (fun _ => true) true fuel 26 cs = some x) :
    ∃ (v0 : Nat) (l0 : Int) (A0 : Option Addr) (n0 c0 : Nat) (h0 : List UInt8) (v1 : Nat) (l1 : Int) (A1 : Option Addr) (n1 c1 : Nat) (h1 : List UInt8),
      cs = [.int .u32 (v0 : Int), .int .i64 l0, .slice A0 n0 c0, .int .u32 (v1 : Int), .int .i64 l1, .slice A1 n1 c1] ∧ v0 < 4294967296 ∧ I64 l0 ∧ InRow W A0 n0 c0 h0 ∧ v1 < 4294967296 ∧ I64 l1 ∧ InRow W A1 n1 c1 h1 := by
  obtain ⟨xs, m, _, _, hlen, hxl, hx⟩ := DataW.trod_array Try.underlying26 hf
  have hct : Try.prog.cellsOf 26 = 6 := by kernel_rfl
  have hcs : Try.prog.cellsOf 25 = 3 := by kernel_rfl
  rw [hct] at hlen
  match cs, hlen with
  | [a0, a1, a2, a3, a4, a5], _ =>
    have g0 := hx 0 (by omega)
    have g1 := hx 1 (by omega)
    rw [hcs, List.getElem?_eq_getElem (by omega)] at g0
    rw [hcs, List.getElem?_eq_getElem (by omega)] at g1
    obtain ⟨v0, l0, A0, n0, c0, h0, e0, b0, i0, r0⟩ := open_slot17 g0
    obtain ⟨v1, l1, A1, n1, c1, h1, e1, b1, i1, r1⟩ := open_slot17 g1
    simp at e0 e1
    obtain ⟨rfl, rfl, rfl⟩ := e0
    obtain ⟨rfl, rfl, rfl⟩ := e1
    exact ⟨v0, l0, A0, n0, c0, h0, v1, l1, A1, n1, c1, h1, rfl, b0, i0, r0, b1, i1, r1⟩
theorem open_state (hval : Value.okWide Try.prog W .any base 30 v) (h : DataW.Trod enc Try.prog W 0 (fun _ => true) true 30 v d ps) :
    ∃ (act trial : Int) (flo gen v0 : Nat) (l0 : Int) (A0 : Option Addr) (n0 c0 : Nat) (h0 : List UInt8) (v1 : Nat) (l1 : Int) (A1 : Option Addr) (n1 c1 : Nat) (h1 : List UInt8) (on : Bool) (s u : Nat) (l z p : Int) (A : Option Addr) (n c : Nat) (h : List UInt8),
      v = .agg #[.int .i64 act, .int .i64 trial, .int .u32 (flo : Int), .int .u32 (gen : Int), .int .u32 (v0 : Int), .int .i64 l0, .slice A0 n0 c0, .int .u32 (v1 : Int), .int .i64 l1, .slice A1 n1 c1, .bool on, .int .u32 (s : Int), .int .u32 (u : Int), .int .i64 l, .int .i64 z, .int .i64 p, .slice A n c] ∧
      I64 act ∧ I64 trial ∧ flo < 4294967296 ∧ gen < 4294967296 ∧ v0 < 4294967296 ∧ I64 l0 ∧ InRow W A0 n0 c0 h0 ∧ v1 < 4294967296 ∧ I64 l1 ∧ InRow W A1 n1 c1 h1 ∧ s < 4294967296 ∧ u < 4294967296 ∧ I64 l ∧ I64 z ∧ I64 p ∧ InRow W A n c h := by
  have hv := hval
  unfold Value.okWide at hv
  rw [Try.underlying30] at hv
  obtain ⟨cs, rfl, hsz, _⟩ := hv
  obtain ⟨fuel, hf⟩ := h
  obtain ⟨xs, m, _, _, hlen, hxl, hx⟩ := DataW.trod_struct Try.underlying30 hf
  have hct : Try.prog.cellsOf 30 = 17 := by kernel_rfl
  have k1 : Try.prog.cellsOf 3 = 1 := by kernel_rfl
  have k2 : Try.prog.cellsOf 22 = 1 := by kernel_rfl
  have k3 : Try.prog.cellsOf 26 = 6 := by kernel_rfl
  have k4 : Try.prog.cellsOf 4 = 1 := by kernel_rfl
  have k5 : Try.prog.cellsOf 28 = 6 := by kernel_rfl
  rw [hct] at hlen
  have hsz17 : cs.size = 17 := hlen
  obtain ⟨q0, q1, q2, q3, q4, q5, q6, q7, q8, q9, q10, q11, q12, q13, q14, q15, q16, rfl⟩ : ∃ q0 q1 q2 q3 q4 q5 q6 q7 q8 q9 q10 q11 q12 q13 q14 q15 q16, cs = #[q0, q1, q2, q3, q4, q5, q6, q7, q8, q9, q10, q11, q12, q13, q14, q15, q16] := by
    match cs, hsz17 with
    | ⟨[q0, q1, q2, q3, q4, q5, q6, q7, q8, q9, q10, q11, q12, q13, q14, q15, q16]⟩, _ => exact ⟨_, _, _, _, _, _, _, _, _, _, _, _, _, _, _, _, _, rfl⟩
  have hxl7 : xs.length = 7 := hxl
  have g0 : DataW.trod enc Try.prog W 0 (fun _ => true) true m 3 (([q0, q1, q2, q3, q4, q5, q6, q7, q8, q9, q10, q11, q12, q13, q14, q15, q16].drop 0).take (Try.prog.cellsOf 3)) = xs[0]? := hx 0 _ rfl
  have g1 : DataW.trod enc Try.prog W 0 (fun _ => true) true m 3 (([q0, q1, q2, q3, q4, q5, q6, q7, q8, q9, q10, q11, q12, q13, q14, q15, q16].drop 1).take (Try.prog.cellsOf 3)) = xs[1]? := hx 1 _ rfl
  have g2 : DataW.trod enc Try.prog W 0 (fun _ => true) true m 22 (([q0, q1, q2, q3, q4, q5, q6, q7, q8, q9, q10, q11, q12, q13, q14, q15, q16].drop 2).take (Try.prog.cellsOf 22)) = xs[2]? := hx 2 _ rfl
  have g3 : DataW.trod enc Try.prog W 0 (fun _ => true) true m 22 (([q0, q1, q2, q3, q4, q5, q6, q7, q8, q9, q10, q11, q12, q13, q14, q15, q16].drop 3).take (Try.prog.cellsOf 22)) = xs[3]? := hx 3 _ rfl
  have g4 : DataW.trod enc Try.prog W 0 (fun _ => true) true m 26 (([q0, q1, q2, q3, q4, q5, q6, q7, q8, q9, q10, q11, q12, q13, q14, q15, q16].drop 4).take (Try.prog.cellsOf 26)) = xs[4]? := hx 4 _ rfl
  have g5 : DataW.trod enc Try.prog W 0 (fun _ => true) true m 4 (([q0, q1, q2, q3, q4, q5, q6, q7, q8, q9, q10, q11, q12, q13, q14, q15, q16].drop 10).take (Try.prog.cellsOf 4)) = xs[5]? := hx 5 _ rfl
  have g6 : DataW.trod enc Try.prog W 0 (fun _ => true) true m 28 (([q0, q1, q2, q3, q4, q5, q6, q7, q8, q9, q10, q11, q12, q13, q14, q15, q16].drop 11).take (Try.prog.cellsOf 28)) = xs[6]? := hx 6 _ rfl
  rw [List.getElem?_eq_getElem (by omega)] at g0 g1 g2 g3 g4 g5 g6
  rw [k1] at g0 g1
  rw [k2] at g2 g3
  rw [k3] at g4
  rw [k4] at g5
  rw [k5] at g6
  obtain ⟨act, ha, hal⟩ := open_ci64 Try.underlying3 g0
  obtain ⟨trial, ht, htl⟩ := open_ci64 Try.underlying3 g1
  obtain ⟨flo, hf2, hfl⟩ := open_cu32 Try.underlying22 g2
  obtain ⟨gen, hg, hgl⟩ := open_cu32 Try.underlying22 g3
  obtain ⟨v0, l0, A0, n0, c0, h0, v1, l1, A1, n1, c1, h1, hs, r⟩ := open_slots6 g4
  obtain ⟨on, ho, _⟩ := DataW.trod_bool Try.underlying4 g5
  obtain ⟨s, u, l, z, p, A, n, c, hh, hm, rm⟩ := open_man6 g6
  simp at ha ht hf2 hg hs ho hm
  obtain ⟨rfl, rfl, rfl, rfl, rfl, rfl⟩ := hs
  obtain ⟨rfl, rfl, rfl, rfl, rfl, rfl⟩ := hm
  subst ha ht hf2 hg ho
  exact ⟨act, trial, flo, gen, v0, l0, A0, n0, c0, h0, v1, l1, A1, n1, c1, h1, on, s, u, l, z, p, A, n, c, hh, rfl, hal, htl, hfl, hgl, r.1, r.2.1, r.2.2.1, r.2.2.2.1, r.2.2.2.2.1, r.2.2.2.2.2, rm⟩
end
end Go.Proofs.Ytdipccjgpkedhaa
