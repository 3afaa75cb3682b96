/- law19.Heavy; loads and stores of whole rows. -/
import Derived.Test.YtdipccjgpkedhaaOwnSt
namespace Go.Proofs.Ytdipccjgpkedhaa
open Go.RowKit
set_option maxRecDepth 100000 in
set_option maxHeartbeats 800000 in
theorem heavy_no (act trial : Int) (flo gen v0 : Nat) (l0 : Int) (A0 : Option Addr) (n0 c0 : Nat) (v1 : Nat) (l1 : Int) (A1 : Option Addr) (n1 c1 : Nat) (on : Bool) (s v : Nat) (l z p : Int) (A : Option Addr) (n c : Nat) (w : World) (hn0 : n0 ≤ 100) (hn1 : n1 ≤ 100) (hn : n ≤ 100) :
    Calls Try.prog 5 #[.agg #[.int .i64 act, .int .i64 trial, .int .u32 (flo : Int), .int .u32 (gen : Int), .int .u32 (v0 : Int), .int .i64 l0, .slice A0 n0 c0, .int .u32 (v1 : Int), .int .i64 l1, .slice A1 n1 c1, .bool on, .int .u32 (s : Int), .int .u32 (v : Int), .int .i64 l, .int .i64 z, .int .i64 p, .slice A n c]] w fun e w' => e = .returned (.int .i64 0) ∧ Below w.heap.size w w' := by
  go_enter Try.func5, Try.ntmps5
  go_wp2_with fail
  go_ret
  exact ⟨rfl, (Below.refl _ _).alloc (Nat.le_refl _) _⟩
set_option maxRecDepth 100000 in
set_option maxHeartbeats 800000 in
theorem heavy_yes (act trial : Int) (flo gen v0 : Nat) (l0 : Int) (A0 : Option Addr) (n0 c0 : Nat) (v1 : Nat) (l1 : Int) (A1 : Option Addr) (n1 c1 : Nat) (on : Bool) (s v : Nat) (l z p : Int) (A : Option Addr) (n c : Nat) (w : World) (hh : 100 < n0 ∨ 100 < n1 ∨ 100 < n) :
    Calls Try.prog 5 #[.agg #[.int .i64 act, .int .i64 trial, .int .u32 (flo : Int), .int .u32 (gen : Int), .int .u32 (v0 : Int), .int .i64 l0, .slice A0 n0 c0, .int .u32 (v1 : Int), .int .i64 l1, .slice A1 n1 c1, .bool on, .int .u32 (s : Int), .int .u32 (v : Int), .int .i64 l, .int .i64 z, .int .i64 p, .slice A n c]] w fun e w' => e = .returned (.int .i64 1) ∧ Below w.heap.size w w' := by
  by_cases h0 : 100 < n0
  · clear hh
    go_enter Try.func5, Try.ntmps5
    go_wp2_with fail
    go_ret
    exact ⟨rfl, (Below.refl _ _).alloc (Nat.le_refl _) _⟩
  · by_cases h1 : 100 < n1
    · clear hh
      go_enter Try.func5, Try.ntmps5
      go_wp2_with fail
      go_ret
      exact ⟨rfl, (Below.refl _ _).alloc (Nat.le_refl _) _⟩
    · have h2 : 100 < n := by omega
      clear hh
      go_enter Try.func5, Try.ntmps5
      go_wp2_with fail
      go_ret
      exact ⟨rfl, (Below.refl _ _).alloc (Nat.le_refl _) _⟩
theorem wpList_load_rowG {P : Program} {ops : Array Oper} {rest : List Oper} {o : Oper} {a : Act} {w : World} {Q : Exit → Act → World → Prop} (hw : Region.wanted o (yielded ops a.tmps) = true) (ty : TypeId) (x : Operand) (ho : o.op = .load ty x)
    (g : Nat) (hx : a.eval x = .pointer (some ⟨g, 0, none⟩)) (t : TypeId) (cs : Array Value) (fr : Nat × Nat) (d : TypeDesc) (hg : w.heap[g]? = some (.cells cs t fr))
    (hu : P.underlying ty = some d) (hd : (match d with | .struct _ | .array _ _ => true | _ => false) = true) (hi : (P.info? ty).map (·.size) = some cs.size)
    (h : wpList P ops Q rest (a.put o.dst (.agg cs)) w) : wpList P ops Q (o :: rest) a w :=
  wpList_step fun K hK => by simp only [hw, if_true]; exact wp_load_row ty x ho g hx t cs fr d hg hu hd hi (hK _ _ h)
theorem heavy_not (act trial : Int) (v0 : Nat) (l0 : Int) (v1 : Nat) (l1 : Int) (on : Bool) (s v : Nat) (l z p : Int) (h0 h1 h : List UInt8) (hh : 100 < h0.length ∨ 100 < h1.length ∨ 100 < h.length) : mayB2 act trial v0 l0 h0 v1 l1 h1 on s v l z p h = false := by
  cases hm : mayB2 act trial v0 l0 h0 v1 l1 h1 on s v l z p h with
  | false => rfl
  | true =>
    exfalso
    have e : ∀ x : List UInt8, x = [] → x.length = 0 := fun x hx => by rw [hx]; rfl
    unfold mayB2 at hm
    rw [Bool.and_eq_true, Bool.and_eq_true] at hm
    obtain ⟨⟨_, h3⟩, h4⟩ := hm
    have k1 : h.length ≤ 32 := by
      cases on with
      | true => simp [manB] at h3; omega
      | false => simp at h3; have := e h h3.2.2.2.2.2; omega
    have k2 : h0.length ≤ 32 ∧ h1.length ≤ 32 := by
      split at h4 <;> simp [filledB, emptyB] at h4 <;> (obtain ⟨⟨_, ha⟩, hb⟩ := h4; rcases hb with ⟨_, hb⟩ | ⟨_, _, _, hb⟩) <;> first | omega | (have := e _ hb; omega)
    omega
/-- a state lies in a box -/
theorem yields_row {P : Program} {ops : Array Oper} {S : World → Prop} {op : Oper} {a : Act} (hw : Region.wanted op (yielded ops a.tmps) = true) (ty : TypeId) (x : Operand) (ho : op.op = .load ty x)
    (g : Nat) (hx : a.eval x = .pointer (some ⟨g, 0, none⟩)) (t : TypeId) (cs : Array Value) (fr : Nat × Nat) (d : TypeDesc) (hS : ∀ w, S w → w.heap[g]? = some (.cells cs t fr))
    (hu : P.underlying ty = some d) (hd : (match d with | .struct _ | .array _ _ => true | _ => false) = true) (hi : (P.info? ty).map (·.size) = some cs.size) : YieldsIf P ops S op (.agg cs) a :=
  .inl ⟨hw, fun w hw' => by
    unfold execOp
    simp only [ho, hx, Instr.loadAt, Instr.sureAddr, Sem.run_bind, Sem.run_pure, Result.andThen_ok, run_loadVar_row w g t ty cs fr d (hS w hw') hu hd hi]⟩
/-- a whole struct stored into the box just made -/
theorem wpList_store_new {P : Program} {ops : Array Oper} {rest : List Oper} {o : Oper} {a : Act} {Q : Exit → Act → World → Prop} (hgd : o.guard = none) (hd : o.dst = none) (ty : TypeId) (x y : Operand) (ho : o.op = .store ty x y)
    (w : World) (z cs : Array Value) (t : TypeId) (hx : a.eval x = .pointer (some ⟨w.heap.size, 0, none⟩)) (hy : a.eval y = .agg cs) (hi : (P.info? ty).map (·.size) = some cs.size) (hold : z.size = cs.size) (h1 : cs.all (·.oneCell') = true)
    (h : wpList P ops Q rest a (w.alloc (.cells cs t))) : wpList P ops Q (o :: rest) a (w.alloc (.cells z t)) :=
  wpList_store_row hgd ty x y ho w.heap.size cs hx hy t z (heap_alloc_new _ _) hi hold h1 (by rw [World.setRow_alloc_new, hd]; exact h)
end Go.Proofs.Ytdipccjgpkedhaa
