/- '==' of two arrays of four bytes; an array's element by its index. -/
import Derived.Test.YtcnjhpbakommbaaBase
import Derived.Laws.StructEq
import Derived.Laws.Rows
import Derived.Still
namespace Go.Proofs.Ytcnjhpbakommbaa
open Go.RowKit
theorem run_equalIn_arr4 {P : Program} (w : World) {t e : TypeId} {i : TypeInfo} (d : Nat) (ht : P.underlying t = some (.array 4 e)) (he : P.underlying e = some (.int .u8)) (hi : P.info? e = some i) (hs : i.size = 1) (hp : P.stoodInHeld t = false) (a0 a1 a2 a3 b0 b1 b2 b3 : Int) :
    (Op.equalIn (d + 2) t (.agg #[.int .u8 a0, .int .u8 a1, .int .u8 a2, .int .u8 a3]) (.agg #[.int .u8 b0, .int .u8 b1, .int .u8 b2, .int .u8 b3])).run P w = .ok (a0 == b0 && (a1 == b1 && (a2 == b2 && a3 == b3))) w := by
  have hp1 : ∀ (cs : Array Value) (k : Nat) (v : Value), cs[k]? = some v → (part e cs k).run P w = .ok v w := by
    intro cs k v hv
    simp [part, isAgg, run_underlying he, sizeOf, typeInfo, hi, hs, hv]
  unfold Op.equalIn
  simp [run_underlying ht, sizeOf, typeInfo, hi, hs, List.range']
  have p0 := hp1 #[.int .u8 a0, .int .u8 a1, .int .u8 a2, .int .u8 a3] 0 (.int .u8 a0) rfl
  have r0 := hp1 #[.int .u8 b0, .int .u8 b1, .int .u8 b2, .int .u8 b3] 0 (.int .u8 b0) rfl
  have q0 := run_equalIn_int (P := P) w d e .u8 .u8 a0 b0 he
  have p1 := hp1 #[.int .u8 a0, .int .u8 a1, .int .u8 a2, .int .u8 a3] 1 (.int .u8 a1) rfl
  have r1 := hp1 #[.int .u8 b0, .int .u8 b1, .int .u8 b2, .int .u8 b3] 1 (.int .u8 b1) rfl
  have q1 := run_equalIn_int (P := P) w d e .u8 .u8 a1 b1 he
  have p2 := hp1 #[.int .u8 a0, .int .u8 a1, .int .u8 a2, .int .u8 a3] 2 (.int .u8 a2) rfl
  have r2 := hp1 #[.int .u8 b0, .int .u8 b1, .int .u8 b2, .int .u8 b3] 2 (.int .u8 b2) rfl
  have q2 := run_equalIn_int (P := P) w d e .u8 .u8 a2 b2 he
  have p3 := hp1 #[.int .u8 a0, .int .u8 a1, .int .u8 a2, .int .u8 a3] 3 (.int .u8 a3) rfl
  have r3 := hp1 #[.int .u8 b0, .int .u8 b1, .int .u8 b2, .int .u8 b3] 3 (.int .u8 b3) rfl
  have q3 := run_equalIn_int (P := P) w d e .u8 .u8 a3 b3 he
  simp only [Result.andThen_ok, p0, p1, p2, p3, r0, r1, r2, r3, q0, q1, q2, q3]
  by_cases h0 : a0 = b0 <;> by_cases h1 : a1 = b1 <;> by_cases h2 : a2 = b2 <;> by_cases h3 : a3 = b3 <;> simp [h0, h1, h2, h3, Result.andThen_ok, p1, p2, p3, r1, r2, r3, q1, q2, q3]
theorem run_index_arr4 {P : Program} {t e : TypeId} {i : TypeInfo} (ht : P.underlying t = some (.array 4 e)) (he : P.underlying e = some (.int .u8)) (hi : P.info? e = some i) (hs : i.size = 1) (d0 d1 d2 d3 : UInt8) (k : Nat) (h : k < 4) : ∀ w : World,
    (Instr.index t (.agg #[.int .u8 (d0.toNat : Int), .int .u8 (d1.toNat : Int), .int .u8 (d2.toNat : Int), .int .u8 (d3.toNat : Int)]) (.int .i64 (k : Int))).run P w = .ok (.int .u8 (([d0, d1, d2, d3].getD k 0).toNat : Int)) w := by
  intro w
  have hp1 : ∀ (cs : Array Value) (k : Nat) (v : Value), cs[k]? = some v → (part e cs k).run P w = .ok v w := by
    intro cs k v hv
    simp [part, isAgg, run_underlying he, sizeOf, typeInfo, hi, hs, hv]
  have hc : (#[Value.int .u8 (d0.toNat : Int), .int .u8 (d1.toNat : Int), .int .u8 (d2.toNat : Int), .int .u8 (d3.toNat : Int)])[k]? = some (.int .u8 (([d0, d1, d2, d3].getD k 0).toNat : Int)) := by
    match k, h with
    | 0, _ => rfl
    | 1, _ => rfl
    | 2, _ => rfl
    | 3, _ => rfl
  simp [Instr.index, asIntOf, run_underlying ht, sizeOf, typeInfo, hi, hs, h]
  exact (hp1 _ k _ hc).trans (by rw [List.getD_eq_getElem?_getD, List.getElem?_eq_getElem (by simpa using h)]; rfl)
/-- a whole array read out of its variable, in a walk that stands still -/
theorem still_load_row {P : Program} {ops : Array Oper} {w : World} {Q : Act → Prop} {rest : List Oper} {o : Oper} {a : Act} (hgd : o.guard = none) (ty : TypeId) (x : Operand) (ho : o.op = .load ty x)
    (g : Nat) (hx : a.eval x = .pointer (some ⟨g, 0, none⟩)) (t : TypeId) (cs : Array Value) (fr : Nat × Nat) (d : TypeDesc) (hg : w.heap[g]? = some (.cells cs t fr))
    (hu : P.underlying ty = some d) (hd : (match d with | .struct _ | .array _ _ => true | _ => false) = true) (hi : (P.info? ty).map (·.size) = some cs.size)
    (h : wpStill P ops w Q rest (a.put o.dst (.agg cs))) : wpStill P ops w Q (o :: rest) a := by
  refine wpStill_step fun K hK => ?_
  have hw : Region.wanted o (yielded ops a.tmps) = true := by simp [Region.wanted, hgd]
  rw [if_pos hw]
  unfold Oper.still execOp
  simp only [ho, hx, Instr.loadAt, Instr.sureAddr, Sem.run_bind, Sem.run_pure, Result.andThen_ok, run_loadVar_row w g t ty cs fr d hg hu hd hi, Oper.stillUpon]
  exact ⟨trivial, hK _ h⟩
end Go.Proofs.Ytcnjhpbakommbaa
