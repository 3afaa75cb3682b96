/- law19.Heavy; loads and stores of whole rows. -/
import Derived.BigQuiet
import Derived.Test.YtoclckfpbmglfaaDoorOwnStQ
import Derived.Test.YtoclckfpbmglfaaDoorDropQ
import Derived.Test.YtoclckfpbmglfaaDoorAdmitHQ
import Derived.Test.YtoclckfpbmglfaaDoorAdmitBQ
import Derived.Test.YtoclckfpbmglfaaDoorZA
import Derived.Test.YtoclckfpbmglfaaDoorRows
import Derived.Test.YtoclckfpbmglfaaDoorStSameQ
namespace Go.Proofs.YtoclckfpbmglfaaDoor
open Go.RowKit
set_option maxRecDepth 100000 in
set_option maxHeartbeats 800000 in
theorem heavy_no (act trial : Int) (flo gen v0 : Nat) (l0 : Int) (A0 : Option Addr) (n0 c0 : Nat) (v1 : Nat) (l1 : Int) (A1 : Option Addr) (n1 c1 : Nat) (on : Bool) (s v : Nat) (l z p : Int) (A : Option Addr) (n c : Nat) (w : World) (hn0 : n0 ≤ 100) (hn1 : n1 ≤ 100) (hn : n ≤ 100) :
    Calls Tryd.prog 5 #[.agg #[.int .i64 act, .int .i64 trial, .int .u32 (flo : Int), .int .u32 (gen : Int), .int .u32 (v0 : Int), .int .i64 l0, .slice A0 n0 c0, .int .u32 (v1 : Int), .int .i64 l1, .slice A1 n1 c1, .bool on, .int .u32 (s : Int), .int .u32 (v : Int), .int .i64 l, .int .i64 z, .int .i64 p, .slice A n c]] w fun e w' => e = .returned (.int .i64 0) ∧ Below w.heap.size w w' := by
  go_enter Tryd.func5, Tryd.ntmps5
  go_wp2_with fail
  go_ret
  exact ⟨rfl, (Below.refl _ _).alloc (Nat.le_refl _) _⟩
set_option maxRecDepth 100000 in
set_option maxHeartbeats 800000 in
theorem heavy_yes (act trial : Int) (flo gen v0 : Nat) (l0 : Int) (A0 : Option Addr) (n0 c0 : Nat) (v1 : Nat) (l1 : Int) (A1 : Option Addr) (n1 c1 : Nat) (on : Bool) (s v : Nat) (l z p : Int) (A : Option Addr) (n c : Nat) (w : World) (hh : 100 < n0 ∨ 100 < n1 ∨ 100 < n) :
    Calls Tryd.prog 5 #[.agg #[.int .i64 act, .int .i64 trial, .int .u32 (flo : Int), .int .u32 (gen : Int), .int .u32 (v0 : Int), .int .i64 l0, .slice A0 n0 c0, .int .u32 (v1 : Int), .int .i64 l1, .slice A1 n1 c1, .bool on, .int .u32 (s : Int), .int .u32 (v : Int), .int .i64 l, .int .i64 z, .int .i64 p, .slice A n c]] w fun e w' => e = .returned (.int .i64 1) ∧ Below w.heap.size w w' := by
  by_cases h0 : 100 < n0
  · clear hh
    go_enter Tryd.func5, Tryd.ntmps5
    go_wp2_with fail
    go_ret
    exact ⟨rfl, (Below.refl _ _).alloc (Nat.le_refl _) _⟩
  · by_cases h1 : 100 < n1
    · clear hh
      go_enter Tryd.func5, Tryd.ntmps5
      go_wp2_with fail
      go_ret
      exact ⟨rfl, (Below.refl _ _).alloc (Nat.le_refl _) _⟩
    · have h2 : 100 < n := by omega
      clear hh
      go_enter Tryd.func5, Tryd.ntmps5
      go_wp2_with fail
      go_ret
      exact ⟨rfl, (Below.refl _ _).alloc (Nat.le_refl _) _⟩
theorem wpList_load_rowG {P : Program} {ops : Array Oper} {rest : List Oper} {o : Oper} {a : Act} {w : World} {Q : Exit → Act → World → Prop} (hw : Region.wanted o (yielded ops a.tmps) = true) (ty : TypeId) (x : Operand) (ho : o.op = .load ty x)
    (g : Nat) (hx : a.eval x = .pointer (some ⟨g, 0, none⟩)) (t : TypeId) (cs : Array Value) (fr : Nat × Nat) (d : TypeDesc) (hg : w.heap[g]? = some (.cells cs t fr))
    (hu : P.underlying ty = some d) (hd : (match d with | .struct _ | .array _ _ => true | _ => false) = true) (hi : (P.info? ty).map (·.size) = some cs.size)
    (h : wpList P ops Q rest (a.put o.dst (.agg cs)) w) : wpList P ops Q (o :: rest) a w :=
  wpList_step fun K hK => by simp only [hw, if_true]; exact wp_load_row ty x ho g hx t cs fr d hg hu hd hi (hK _ _ h)
theorem heavy_not (act trial : Int) (v0 : Nat) (l0 : Int) (v1 : Nat) (l1 : Int) (on : Bool) (s v : Nat) (l z p : Int) (h0 h1 h : List UInt8) (hh : 100 < h0.length ∨ 100 < h1.length ∨ 100 < h.length) : mayB2 act trial v0 l0 h0 v1 l1 h1 on s v l z p h = false := by
  cases hm : mayB2 act trial v0 l0 h0 v1 l1 h1 on s v l z p h with
  | false => rfl
  | true =>
    exfalso
    have e : ∀ x : List UInt8, x = [] → x.length = 0 := fun x hx => by rw [hx]; rfl
    unfold mayB2 at hm
    rw [Bool.and_eq_true, Bool.and_eq_true] at hm
    obtain ⟨⟨_, h3⟩, h4⟩ := hm
    have k1 : h.length ≤ 32 := by
      cases on with
      | true => simp [manB] at h3; omega
      | false => simp at h3; have := e h h3.2.2.2.2.2; omega
    have k2 : h0.length ≤ 32 ∧ h1.length ≤ 32 := by
      split at h4 <;> simp [filledB, emptyB] at h4 <;> (obtain ⟨⟨_, ha⟩, hb⟩ := h4; rcases hb with ⟨_, hb⟩ | ⟨_, _, _, hb⟩) <;> first | omega | (have := e _ hb; omega)
    omega
/-- a state lies in a box -/
theorem yields_row {P : Program} {ops : Array Oper} {S : World → Prop} {op : Oper} {a : Act} (hw : Region.wanted op (yielded ops a.tmps) = true) (ty : TypeId) (x : Operand) (ho : op.op = .load ty x)
    (g : Nat) (hx : a.eval x = .pointer (some ⟨g, 0, none⟩)) (t : TypeId) (cs : Array Value) (fr : Nat × Nat) (d : TypeDesc) (hS : ∀ w, S w → w.heap[g]? = some (.cells cs t fr))
    (hu : P.underlying ty = some d) (hd : (match d with | .struct _ | .array _ _ => true | _ => false) = true) (hi : (P.info? ty).map (·.size) = some cs.size) : YieldsIf P ops S op (.agg cs) a :=
  .inl ⟨hw, fun w hw' => by
    unfold execOp
    simp only [ho, hx, Instr.loadAt, Instr.sureAddr, Sem.run_bind, Sem.run_pure, Result.andThen_ok, run_loadVar_row w g t ty cs fr d (hS w hw') hu hd hi]⟩
/-- a whole struct stored into the box just made -/
theorem wpList_store_new {P : Program} {ops : Array Oper} {rest : List Oper} {o : Oper} {a : Act} {Q : Exit → Act → World → Prop} (hgd : o.guard = none) (hd : o.dst = none) (ty : TypeId) (x y : Operand) (ho : o.op = .store ty x y)
    (w : World) (z cs : Array Value) (t : TypeId) (hx : a.eval x = .pointer (some ⟨w.heap.size, 0, none⟩)) (hy : a.eval y = .agg cs) (hi : (P.info? ty).map (·.size) = some cs.size) (hold : z.size = cs.size) (h1 : cs.all (·.oneCell') = true)
    (h : wpList P ops Q rest a (w.alloc (.cells cs t))) : wpList P ops Q (o :: rest) a (w.alloc (.cells z t)) :=
  wpList_store_row hgd ty x y ho w.heap.size cs hx hy t z (heap_alloc_new _ _) hi hold h1 (by rw [World.setRow_alloc_new, hd]; exact h)
end Go.Proofs.YtoclckfpbmglfaaDoor
namespace Go.Proofs.YtoclckfpbmglfaaDoor
open Go.RowKit
theorem made_list (v : Value) (n : Nat) : madeCells #[v] n = Array.replicate n v := by
  apply Array.toList_inj.1
  rw [toList_madeCells_one]; simp
theorem mk_bytes (c : Nat) (hc : c ≤ 1000000000) (w : World) : (Instr.makeSlice 23 (.int .i64 (c : Int)) (.int .i64 (c : Int))).run Tryd.prog w = .ok (.slice (some ⟨w.heap.size, 0, none⟩) c c) (w.alloc (.cells (Array.replicate c (.int .u8 0)) 5)) := by
  obtain ⟨i0, hi, hz0, hz1, hz2⟩ := info_parts Tryd.info5
  have := run_make (P := Tryd.prog) w 23 5 i0 (.int .u8 0) Tryd.underlying23 hi hz0 .i64 .i64 c c (by omega) (Int.le_refl _) (by rw [hz2]; omega) (by omega)
  simpa [hz1, Value.cells, made_list] using this
def n32 : List UInt8 := List.replicate 32 0
theorem n32_length : n32.length = 32 := by simp [n32]
theorem n32_row (w : World) (g : Nat) (h : w.heap[g]? = some (.cells (Array.replicate 32 (.int .u8 0)) 5 (0, 0))) {B : Nat} (hB : B ≤ g) : RowF w B (some ⟨g, 0, none⟩) 32 (bv n32) := by
  have e : bv n32 = List.replicate 32 (Value.int .u8 0) := by simp [bv, n32]
  refine ⟨by rw [bv_length, n32_length], fun _ => ⟨g, 0, rfl, (Array.getElem?_eq_some_iff.1 h).1, hB, fun j v hv => ?_⟩⟩
  rw [Nat.zero_add, cell_of_row w g j _ _ (0, 0) h, ← hv, e, Array.getElem?_replicate, List.getElem?_replicate]
def GoodOk (ver : Nat) (w : World) (e : Ending) (w' : World) : Prop :=
  ∃ A c, e = .returned (.agg #[.int .u32 1, .int .u32 (ver : Int), .int .i64 3, .int .i64 2, .int .i64 0, .slice A 32 c]) ∧ Hid (RowF w' w.heap.size A 32 (bv n32)) ∧ Hid (Below w.heap.size w w')
def zMan : Array Value := #[.int .u32 0, .int .u32 0, .int .i64 0, .int .i64 0, .int .i64 0, .slice none 0 0]
end Go.Proofs.YtoclckfpbmglfaaDoor
namespace Go.Proofs.YtoclckfpbmglfaaDoor
open Go.RowKit
def FirstOk (w : World) (e : Ending) (w' : World) : Prop :=
  ∃ A c, e = .returned (.agg #[.int .i64 0, .int .i64 0, .int .u32 0, .int .u32 0, .int .u32 1, .int .i64 3, .slice A 32 c, .int .u32 0, .int .i64 0, .slice none 0 0, .bool false, .int .u32 0, .int .u32 0, .int .i64 0, .int .i64 0, .int .i64 0, .slice none 0 0]) ∧ Hid (RowF w' w.heap.size A 32 (bv n32)) ∧ Hid (Below w.heap.size w w')
end Go.Proofs.YtoclckfpbmglfaaDoor
namespace Go.Proofs.YtoclckfpbmglfaaDoor
open Go.RowKit
def AwOk (w : World) (e : Ending) (w' : World) : Prop := e = .returned (.bool true) ∧ Below w.heap.size w w'
theorem aw_may : mayB2 0 0 1 3 n32 0 0 [] false 0 0 0 0 0 [] = true := by decide
theorem aw_man : manB 3 2 0 32 = true := by decide
theorem aw_new : newB (mayB2 0 0 1 3 n32 0 0 [] false 0 0 0 0 0 []) 0 0 1 0 false 0 2 = true := by decide
theorem aw_may2 : mayB2 0 0 1 3 n32 0 0 [] true 1 2 3 2 0 n32 = true := by decide
theorem aw_same : decide ((1 : Nat) = 1 ∧ (2 : Nat) = 2 ∧ (3 : Int) = 3 ∧ (2 : Int) = 2 ∧ (0 : Int) = 0 ∧ n32 = n32) = true := by decide
theorem aw_same1 : decide ((1 : Nat) = 1 ∧ (2 : Nat) = 1 ∧ (3 : Int) = 3 ∧ (2 : Int) = 2 ∧ (0 : Int) = 0 ∧ n32 = n32) = false := by decide
theorem aw_old : newB (mayB2 0 0 1 3 n32 0 0 [] true 1 2 3 2 0 n32) 0 0 1 0 true 2 1 = false := by decide
theorem bx53 {w : World} {g : Nat} {t : TypeId} {a0 a1 a2 a3 a4 a5 a6 a7 a8 a9 a10 a11 a12 a13 a14 a15 a16 : Value} (h : w.heap[g]? = some (.cells #[a0, a1, a2, a3, a4, a5, a6, a7, a8, a9, a10, a11, a12, a13, a14, a15, a16] t (0, 0))) : w.cell? ⟨g, 10, none⟩ = some a10 ∧ w.cell? ⟨g, 3, none⟩ = some a3 := by
  refine ⟨?_, ?_⟩ <;> rw [cell_of_row w g _ _ t (0, 0) h] <;> rfl
end Go.Proofs.YtoclckfpbmglfaaDoor
namespace Go.Proofs.YtoclckfpbmglfaaDoor
open Go.RowKit
theorem bxAll {w : World} {g : Nat} {t : TypeId} {a0 a1 a2 a3 a4 a5 a6 a7 a8 a9 a10 a11 a12 a13 a14 a15 a16 : Value} (h : w.heap[g]? = some (.cells #[a0, a1, a2, a3, a4, a5, a6, a7, a8, a9, a10, a11, a12, a13, a14, a15, a16] t (0, 0))) :
    w.cell? ⟨g, 0, none⟩ = some a0 ∧ w.cell? ⟨g, 1, none⟩ = some a1 ∧ w.cell? ⟨g, 2, none⟩ = some a2 ∧ w.cell? ⟨g, 3, none⟩ = some a3 ∧ w.cell? ⟨g, 4, none⟩ = some a4 ∧ w.cell? ⟨g, 5, none⟩ = some a5 ∧ w.cell? ⟨g, 6, none⟩ = some a6 ∧ w.cell? ⟨g, 7, none⟩ = some a7 ∧ w.cell? ⟨g, 8, none⟩ = some a8 ∧ w.cell? ⟨g, 9, none⟩ = some a9 ∧ w.cell? ⟨g, 10, none⟩ = some a10 ∧ w.cell? ⟨g, 11, none⟩ = some a11 ∧ w.cell? ⟨g, 12, none⟩ = some a12 ∧ w.cell? ⟨g, 13, none⟩ = some a13 ∧ w.cell? ⟨g, 14, none⟩ = some a14 ∧ w.cell? ⟨g, 15, none⟩ = some a15 ∧ w.cell? ⟨g, 16, none⟩ = some a16 := by
  refine ⟨?_, ?_, ?_, ?_, ?_, ?_, ?_, ?_, ?_, ?_, ?_, ?_, ?_, ?_, ?_, ?_, ?_⟩ <;> rw [cell_of_row w g _ _ t (0, 0) h] <;> rfl
theorem may_less {act trial : Int} {v0 : Nat} {l0 : Int} {v1 : Nat} {l1 : Int} {on : Bool} {s v : Nat} {l z p : Int} {h0 h1 h : List UInt8} (hm : mayB2 act trial v0 l0 h0 v1 l1 h1 on s v l z p h = true) : mayB2 act trial v0 l0 h0 v1 l1 h1 false 0 0 0 0 0 [] = true := by
  unfold mayB2 at hm ⊢
  simp only [Bool.and_eq_true] at hm ⊢
  exact ⟨⟨hm.1.1, by simp⟩, hm.2⟩
theorem newB_up {m m2 : Bool} {act : Int} {flo v0 v1 : Nat} {on : Bool} {v lo hi : Nat} (h : newB m act flo v0 v1 on v lo = true) (hle : lo ≤ hi) (h2 : m2 = true) : newB m act flo v0 v1 on v hi = true ∧ newB m2 act flo v0 v1 false 0 lo = true := by
  unfold newB at h ⊢
  simp only [Bool.and_eq_true, Bool.or_eq_true, decide_eq_true_eq] at h ⊢
  obtain ⟨⟨⟨h1, h3⟩, h4⟩, h5⟩ := h
  refine ⟨⟨⟨⟨h1, Nat.lt_of_lt_of_le h3 hle⟩, Nat.lt_of_lt_of_le h4 hle⟩, ?_⟩, ⟨⟨h2, h3⟩, h4⟩, .inl rfl⟩
  rcases h5 with h5 | h5
  · exact .inl h5
  · exact .inr (Nat.lt_of_lt_of_le h5 hle)
theorem newB_flo (m : Bool) (act : Int) (flo v0 v1 : Nat) (on : Bool) (v : Nat) : newB m act flo v0 v1 on v flo = false := by simp [newB]
theorem newB_act (m : Bool) (act : Int) (flo v0 v1 : Nat) (on : Bool) (v : Nat) : newB m act flo v0 v1 on v (if act = 0 then v0 else v1) = false := by simp [newB]
theorem newB_a0 (m : Bool) (flo v0 v1 : Nat) (on : Bool) (v : Nat) : newB m 0 flo v0 v1 on v v0 = false := by simp [newB]
theorem newB_a1 (m : Bool) (flo v0 v1 : Nat) (on : Bool) (v : Nat) : newB m 1 flo v0 v1 on v v1 = false := by simp [newB]
theorem newB_zero (m : Bool) (act : Int) (flo v0 v1 : Nat) (on : Bool) (v : Nat) : newB m act flo v0 v1 on v 0 = false := by simp [newB]
end Go.Proofs.YtoclckfpbmglfaaDoor
namespace Go.Proofs.YtoclckfpbmglfaaDoor
namespace CrcM
def put (l : List UInt8) : List UInt8 := l ++ four (sum l)
def right (l : List UInt8) : Prop := 4 ≤ l.length ∧ sum (l.take (l.length - 4)) = number (l.drop (l.length - 4))
theorem put_length (l : List UInt8) : (put l).length = l.length + 4 := by simp [put, four]
theorem put_take (l : List UInt8) : (put l).take ((put l).length - 4) = l := by
  rw [put_length, show l.length + 4 - 4 = l.length by omega, put, List.take_left]
theorem put_right (l : List UInt8) : right (put l) := by
  refine ⟨by rw [put_length]; omega, ?_⟩
  rw [put_take, put_length, show l.length + 4 - 4 = l.length by omega, put, List.drop_left, number_four _ (sum_lt l)]
/-- byte i changed by x -/
def bend (p : List UInt8) (i : Nat) (x : UInt8) : List UInt8 := p.set i (p.getD i 0 ^^^ x)
theorem bend_length (p : List UInt8) (i : Nat) (x : UInt8) : (bend p i x).length = p.length := by simp [bend]
theorem bend_next (p : List UInt8) (i : Nat) (x : UInt8) : (bend p i x).getD (i + 1) 0 = p.getD (i + 1) 0 := by
  simp [bend, List.getD]
theorem bend_at (a s : List UInt8) (u x : UInt8) : bend (a ++ u :: s) a.length x = a ++ (u ^^^ x) :: s := by
  simp [bend]
theorem bend_two (a s : List UInt8) (u v x y : UInt8) : bend (bend (a ++ u :: v :: s) a.length x) (a.length + 1) y = a ++ (u ^^^ x) :: (v ^^^ y) :: s := by
  rw [bend_at]
  have := bend_at (a ++ [u ^^^ x]) s v y
  simpa using this
theorem split_two (p : List UInt8) (i : Nat) (h : i + 1 < p.length) : ∃ a u v s, p = a ++ u :: v :: s ∧ a.length = i := by
  refine ⟨p.take i, p[i], p[i + 1], p.drop (i + 2), ?_, by simp; omega⟩
  rw [← List.drop_eq_getElem_cons h, ← List.drop_eq_getElem_cons (by omega), List.take_append_drop]
theorem right_iff (a b : List UInt8) (h : b.length = 4) : right (a ++ b) ↔ sum a = number b := by
  unfold right
  rw [List.length_append, h, show a.length + 4 - 4 = a.length by omega, List.take_left, List.drop_left]
  exact ⟨fun h => h.2, fun h => ⟨by omega, h⟩⟩
theorem u8_same (u x : UInt8) (h : u = u ^^^ x) : x = 0 := u8_xor_zero u x h.symm
theorem tells (l : List UInt8) (i : Nat) (hi : i + 1 < l.length + 4) (x y : UInt8) : right (bend (bend (put l) i x) (i + 1) y) ↔ x = 0 ∧ y = 0 := by
  have hf : (four (sum l)).length = 4 := rfl
  have hnum := number_four (sum l) (sum_lt l)
  generalize hfour : four (sum l) = f at hf hnum
  constructor
  · intro h
    by_cases h1 : i + 1 < l.length
    · obtain ⟨a, u, v, s, rfl, rfl⟩ := split_two l i h1
      unfold put at h
      rw [hfour, show a ++ u :: v :: s ++ f = a ++ u :: v :: (s ++ f) by simp, bend_two, show a ++ (u ^^^ x) :: (v ^^^ y) :: (s ++ f) = (a ++ (u ^^^ x) :: (v ^^^ y) :: s) ++ f by simp, right_iff _ _ hf, hnum] at h
      have e := (sum_inj a [u ^^^ x, v ^^^ y] [u, v] s).1 (by simpa using h)
      obtain ⟨e1, e2⟩ := reg2_diff _ _ _ _ _ e
      exact ⟨u8_xor_zero u x e1, u8_xor_zero v y e2⟩
    · match f, hf with
      | [f0, f1, f2, f3], _ =>
        by_cases h2 : i + 1 = l.length
        · obtain ⟨a, u, rfl⟩ : ∃ a u, l = a ++ [u] := ⟨l.take i, l[i], by rw [← List.take_succ_eq_append_getElem (by omega), List.take_of_length_le (by omega)]⟩
          have hai : i = a.length := by simp at h2; omega
          subst hai
          unfold put at h
          rw [hfour, show a ++ [u] ++ [f0, f1, f2, f3] = a ++ u :: f0 :: [f1, f2, f3] by simp, bend_two, show a ++ (u ^^^ x) :: (f0 ^^^ y) :: [f1, f2, f3] = (a ++ [u ^^^ x]) ++ [f0 ^^^ y, f1, f2, f3] by simp, right_iff _ _ rfl] at h
          have e0 : reg (reg full a) [u] ^^^ full = number [f0, f1, f2, f3] := by rw [hnum, ← reg_append]; unfold sum add; rw [Nat.zero_xor]
          have e1 : reg (reg full a) [u ^^^ x] ^^^ full = number [f0 ^^^ y, f1, f2, f3] := by rw [← h, ← reg_append]; unfold sum add; rw [Nat.zero_xor]
          obtain ⟨k1, k2⟩ := edge _ _ _ _ _ _ _ _ e0 e1
          exact ⟨u8_same u x k1, u8_same f0 y k2⟩
        · obtain ⟨j, rfl⟩ : ∃ j, i = l.length + j := ⟨i - l.length, by omega⟩
          unfold put at h
          rw [hfour] at h
          match j, hi with
          | 0, _ =>
            rw [show l.length + 0 = l.length from rfl, bend_two, right_iff _ _ rfl, ← hnum] at h
            obtain ⟨k1, k2, _⟩ := number_inj _ _ _ _ _ _ _ _ h
            exact ⟨u8_same f0 x k1, u8_same f1 y k2⟩
          | 1, _ =>
            rw [show l ++ [f0, f1, f2, f3] = (l ++ [f0]) ++ f1 :: f2 :: [f3] by simp, show l.length + 1 = (l ++ [f0]).length by simp, bend_two, show l ++ [f0] ++ (f1 ^^^ x) :: (f2 ^^^ y) :: [f3] = l ++ [f0, f1 ^^^ x, f2 ^^^ y, f3] by simp, right_iff _ _ rfl, ← hnum] at h
            obtain ⟨_, k1, k2, _⟩ := number_inj _ _ _ _ _ _ _ _ h
            exact ⟨u8_same f1 x k1, u8_same f2 y k2⟩
          | 2, _ =>
            rw [show l ++ [f0, f1, f2, f3] = (l ++ [f0, f1]) ++ f2 :: f3 :: [] by simp, show l.length + 2 = (l ++ [f0, f1]).length by simp, bend_two, show l ++ [f0, f1] ++ (f2 ^^^ x) :: (f3 ^^^ y) :: [] = l ++ [f0, f1, f2 ^^^ x, f3 ^^^ y] by simp, right_iff _ _ rfl, ← hnum] at h
            obtain ⟨_, _, k1, k2⟩ := number_inj _ _ _ _ _ _ _ _ h
            exact ⟨u8_same f2 x k1, u8_same f3 y k2⟩
          | j + 3, hi => omega
  · rintro ⟨rfl, rfl⟩
    have hb : ∀ (p : List UInt8) (k : Nat), k < p.length → bend p k 0 = p := by
      intro p k hk
      unfold bend
      have e : p.getD k 0 = p[k] := by simp [List.getD, hk]
      rw [u8_xor_id, e, List.set_getElem_self]
    rw [hb _ _ (by rw [bend_length, put_length]; omega), hb _ _ (by rw [put_length]; omega)]
    exact put_right l
/-- bytes from i on changed by the first k of ds -/
def bendTo (p : List UInt8) (i : Nat) (ds : List UInt8) : Nat → List UInt8
  | 0 => p
  | k + 1 => bend (bendTo p i ds k) (i + k) (ds.getD k 0)
theorem bendTo_length (p : List UInt8) (i : Nat) (ds : List UInt8) (k : Nat) : (bendTo p i ds k).length = p.length := by
  induction k with
  | zero => rfl
  | succ k ih => show (bend _ _ _).length = _; rw [bend_length, ih]
theorem bendTo_four (a s : List UInt8) (u0 u1 u2 u3 d0 d1 d2 d3 : UInt8) :
    bendTo (a ++ u0 :: u1 :: u2 :: u3 :: s) a.length [d0, d1, d2, d3] 4 = a ++ [u0 ^^^ d0, u1 ^^^ d1, u2 ^^^ d2, u3 ^^^ d3] ++ s := by
  show bend (bend (bend (bend (a ++ u0 :: u1 :: u2 :: u3 :: s) (a.length + 0) d0) (a.length + 1) d1) (a.length + 2) d2) (a.length + 3) d3 = _
  rw [Nat.add_zero, bend_two]
  have := bend_two (a ++ [u0 ^^^ d0, u1 ^^^ d1]) s u2 u3 d2 d3
  simpa using this
theorem split_four (p : List UInt8) (i : Nat) (h : i + 4 ≤ p.length) : ∃ a u0 u1 u2 u3 s, p = a ++ u0 :: u1 :: u2 :: u3 :: s ∧ a.length = i := by
  refine ⟨p.take i, p[i], p[i + 1], p[i + 2], p[i + 3], p.drop (i + 4), ?_, by simp; omega⟩
  rw [← List.drop_eq_getElem_cons (by omega), ← List.drop_eq_getElem_cons (by omega), ← List.drop_eq_getElem_cons (by omega), ← List.drop_eq_getElem_cons (by omega), List.take_append_drop]
theorem bursts (l : List UInt8) (i : Nat) (hi : i + 4 ≤ l.length) (d0 d1 d2 d3 : UInt8) :
    sum (bendTo l i [d0, d1, d2, d3] 4) = sum l ↔ d0 = 0 ∧ d1 = 0 ∧ d2 = 0 ∧ d3 = 0 := by
  obtain ⟨a, u0, u1, u2, u3, s, rfl, rfl⟩ := split_four l i hi
  rw [bendTo_four]
  constructor
  · intro h
    have e := (sum_inj a [u0 ^^^ d0, u1 ^^^ d1, u2 ^^^ d2, u3 ^^^ d3] [u0, u1, u2, u3] s).1 (by simpa using h)
    obtain ⟨e0, e1, e2, e3⟩ := reg4_diff _ _ _ _ _ _ _ _ _ e
    exact ⟨u8_xor_zero _ _ e0, u8_xor_zero _ _ e1, u8_xor_zero _ _ e2, u8_xor_zero _ _ e3⟩
  · rintro ⟨rfl, rfl, rfl, rfl⟩
    rw [u8_xor_id, u8_xor_id, u8_xor_id, u8_xor_id]
    simp
end CrcM
end Go.Proofs.YtoclckfpbmglfaaDoor
namespace Go.Proofs.YtoclckfpbmglfaaDoor
open Go.RowKit
def isNum (k x : Nat) (l : List UInt8) : Prop := x = CrcM.number (l.take k) ∧ x < 2 ^ (8 * k)
theorem isNum_next {k x : Nat} {l : List UInt8} (h : isNum k x l) (hk : k < l.length) (h4 : k < 4) :
    ∃ y : Nat, Value.int .u32 (bits .or .u32 (IntKind.u32.wrap ((x : Int) * 256)) (l[k].toNat : Int)) = .int .u32 (y : Int) ∧ isNum (k + 1) y l := by
  obtain ⟨e, hx⟩ := h
  have hb := CrcM.b_lt l[k]
  have hx24 : x < 2 ^ 24 := Nat.lt_of_lt_of_le hx (Nat.pow_le_pow_right (by omega) (by omega))
  have hw : IntKind.u32.wrap ((x : Int) * 256) = ((x * 256 : Nat) : Int) := by rw [IntKind.wrap_u32]; omega
  have ho : x * 256 ||| l[k].toNat = x * 256 + l[k].toNat := nat_join 8 _ _ (by omega) (by omega)
  refine ⟨x * 256 + l[k].toNat, ?_, ?_, ?_⟩
  · rw [hw, u32_or_nat _ _ (by omega) (by omega), ho]
  · rw [List.take_succ_eq_append_getElem hk, CrcM.number, List.foldl_append, ← CrcM.number, ← e]; rfl
  · rw [show 8 * (k + 1) = 8 * k + 8 by omega, Nat.pow_add]; omega
theorem row_drop4 {w : World} {B k : Nat} {A : Option Addr} {xs : List Value} (h : Row w B A (k + 4) xs) : Row w B (A.map fun x => x.add k) 4 (xs.drop k) := by
  have := h.cut (k := k) (m := 4) (Nat.le_refl _)
  rwa [List.take_of_length_le (by rw [List.length_drop, h.1]; omega)] at this

end Go.Proofs.YtoclckfpbmglfaaDoor
namespace Go.Proofs.YtoclckfpbmglfaaDoor
open Go.RowKit
def AddOk (base n : Nat) (l : List UInt8) (w : World) (e : Ending) (w' : World) : Prop :=
  ∃ A c, e = .returned (.slice A n c) ∧ Hid (w'.ownsRow base 5 1 (.slice A n c) n (bv l)) ∧ Hid (∀ w0, Below base w0 w → Below base w0 w')
end Go.Proofs.YtoclckfpbmglfaaDoor
namespace Go.Proofs.YtoclckfpbmglfaaDoor
open Go.RowKit
theorem man_bounds {l z p : Int} {n : Nat} (h : manB l z p n = true) : ∃ L Z P : Nat, l = L ∧ z = Z ∧ p = P ∧ 1 ≤ L ∧ L ≤ 512 ∧ 1 ≤ Z ∧ Z ≤ 16 ∧ P ≤ 16 ∧ n = 32 := by
  simp only [manB, ofB, mayB, Bool.and_eq_true, decide_eq_true_eq] at h
  obtain ⟨⟨⟨⟨h1, h2⟩, h3, h4⟩, h5, h6⟩, h7⟩ := h
  unfold BlkM.count at h1 h2
  split at h1
  · omega
  · next h9 =>
    split at h1
    · omega
    · exact ⟨l.toNat, z.toNat, p.toNat, by omega, by omega, by omega, by omega, by omega, by omega, by omega, by omega, h7⟩
def plainB (s v L Z P : Nat) (h : List UInt8) : List UInt8 := CrcM.four s ++ CrcM.four v ++ [UInt8.ofNat (L / 256), UInt8.ofNat L, UInt8.ofNat Z, UInt8.ofNat P] ++ h
def PlainOk (l : List UInt8) (w : World) (e : Ending) (w' : World) : Prop :=
  ∃ A c, e = .returned (.tuple #[.slice A 44 c, .int .i64 0]) ∧ Hid (w'.ownsRow w.heap.size 5 1 (.slice A 44 c) 44 (bv l)) ∧ Hid (Below w.heap.size w w')
end Go.Proofs.YtoclckfpbmglfaaDoor
namespace Go.Proofs.YtoclckfpbmglfaaDoor
open Go.RowKit
structure LMan where
  s : Nat
  v : Nat
  l : Int
  z : Int
  p : Int
  h : List UInt8
structure LSt where
  act : Int
  trial : Int
  flo : Nat
  gen : Nat
  v0 : Nat
  l0 : Int
  h0 : List UInt8
  v1 : Nat
  l1 : Int
  h1 : List UInt8
  on : Bool
  m : LMan
def LMan.cells (M : LMan) (A : Option Addr) (c : Nat) : Array Value := #[.int .u32 (M.s : Int), .int .u32 (M.v : Int), .int .i64 M.l, .int .i64 M.z, .int .i64 M.p, .slice A M.h.length c]
def LSt.cells (L : LSt) (A0 : Option Addr) (c0 : Nat) (A1 : Option Addr) (c1 : Nat) (A : Option Addr) (c : Nat) : Array Value :=
  #[.int .i64 L.act, .int .i64 L.trial, .int .u32 (L.flo : Int), .int .u32 (L.gen : Int), .int .u32 (L.v0 : Int), .int .i64 L.l0, .slice A0 L.h0.length c0, .int .u32 (L.v1 : Int), .int .i64 L.l1, .slice A1 L.h1.length c1, .bool L.on, .int .u32 (L.m.s : Int), .int .u32 (L.m.v : Int), .int .i64 L.m.l, .int .i64 L.m.z, .int .i64 L.m.p, .slice A L.m.h.length c]
/-- as Row; its block is one of which P says so -/
def RowP (w : World) (P : Nat → Prop) (A : Option Addr) (n : Nat) (xs : List Value) : Prop :=
  xs.length = n ∧ (0 < n → ∃ b o, A = some ⟨b, o, none⟩ ∧ b < w.heap.size ∧ P b ∧ ∀ j v, xs[j]? = some v → w.cell? ⟨b, o + j, none⟩ = some v)
section
variable {w w' : World} {P P' : Nat → Prop} {n : Nat} {A : Option Addr} {xs : List Value}
theorem RowP.keep (h : RowP w P A n xs) (hs : w.heap.size ≤ w'.heap.size) (hk : ∀ b, P b → b < w.heap.size → w'.heap[b]? = w.heap[b]?) : RowP w' P A n xs :=
  ⟨h.1, fun hn => by
    obtain ⟨b, o, e, hlt, h1, hc⟩ := h.2 hn
    exact ⟨b, o, e, Nat.lt_of_lt_of_le hlt hs, h1, fun j v hv => (World.cell?_of_block (a := ⟨b, o + j, none⟩) (hk b h1 hlt)).trans (hc j v hv)⟩⟩
theorem RowP.below (h : RowP w P A n xs) (hb : Below w.heap.size w w') : RowP w' P A n xs := h.keep hb.size fun b _ hb2 => hb.block b hb2
theorem RowP.imp (h : RowP w P A n xs) (hp : ∀ b, b < w.heap.size → P b → P' b) : RowP w P' A n xs :=
  ⟨h.1, fun hn => by obtain ⟨b, o, e, hb, h1, hc⟩ := h.2 hn; exact ⟨b, o, e, hb, hp b hb h1, hc⟩⟩
theorem RowP.row (h : RowP w P A n xs) : Row w w.heap.size A n xs :=
  ⟨h.1, fun hn => by obtain ⟨b, o, e, hb, _, hc⟩ := h.2 hn; exact ⟨b, o, e, hb, hc⟩⟩
theorem RowP.of_row (h : Row w w.heap.size A n xs) : RowP w (fun _ => True) A n xs :=
  ⟨h.1, fun hn => by obtain ⟨b, o, e, hb, hc⟩ := h.2 hn; exact ⟨b, o, e, hb, trivial, hc⟩⟩
theorem RowP.nil (w : World) (P : Nat → Prop) (A : Option Addr) : RowP w P A 0 (bv []) := ⟨rfl, fun h => absurd h (Nat.lt_irrefl _)⟩
theorem RowP.of_f {lo : Nat} (h : RowF w lo A n xs) : RowP w (fun b => lo ≤ b) A n xs := h
end
/-- these cells are the manifest M, its bytes lie in blocks of which P says so -/
def IsMan (w : World) (P : Nat → Prop) (cs : Array Value) (M : LMan) : Prop := ∃ A c, cs = M.cells A c ∧ RowP w P A M.h.length (bv M.h)
/-- these cells are the state L, its bytes lie in blocks of which P says so -/
def IsSt (w : World) (P : Nat → Prop) (cs : Array Value) (L : LSt) : Prop :=
  ∃ A0 c0 A1 c1 A c, cs = L.cells A0 c0 A1 c1 A c ∧ RowP w P A0 L.h0.length (bv L.h0) ∧ RowP w P A1 L.h1.length (bv L.h1) ∧ RowP w P A L.m.h.length (bv L.m.h)
section
variable {w w' : World} {P P' : Nat → Prop} {cs : Array Value} {L : LSt} {M : LMan}
theorem IsMan.below (h : IsMan w P cs M) (hb : Below w.heap.size w w') : IsMan w' P cs M := by
  obtain ⟨A, c, e, r⟩ := h; exact ⟨A, c, e, r.below hb⟩
theorem IsMan.imp (h : IsMan w P cs M) (hp : ∀ b, b < w.heap.size → P b → P' b) : IsMan w P' cs M := by
  obtain ⟨A, c, e, r⟩ := h; exact ⟨A, c, e, r.imp hp⟩
theorem IsMan.keep (h : IsMan w P cs M) (hs : w.heap.size ≤ w'.heap.size) (hk : ∀ b, P b → b < w.heap.size → w'.heap[b]? = w.heap[b]?) : IsMan w' P cs M := by
  obtain ⟨A, c, e, r⟩ := h; exact ⟨A, c, e, r.keep hs hk⟩
theorem IsSt.below (h : IsSt w P cs L) (hb : Below w.heap.size w w') : IsSt w' P cs L := by
  obtain ⟨A0, c0, A1, c1, A, c, e, r0, r1, r2⟩ := h; exact ⟨A0, c0, A1, c1, A, c, e, r0.below hb, r1.below hb, r2.below hb⟩
theorem IsSt.imp (h : IsSt w P cs L) (hp : ∀ b, b < w.heap.size → P b → P' b) : IsSt w P' cs L := by
  obtain ⟨A0, c0, A1, c1, A, c, e, r0, r1, r2⟩ := h; exact ⟨A0, c0, A1, c1, A, c, e, r0.imp hp, r1.imp hp, r2.imp hp⟩
theorem IsSt.keep (h : IsSt w P cs L) (hs : w.heap.size ≤ w'.heap.size) (hk : ∀ b, P b → b < w.heap.size → w'.heap[b]? = w.heap[b]?) : IsSt w' P cs L := by
  obtain ⟨A0, c0, A1, c1, A, c, e, r0, r1, r2⟩ := h; exact ⟨A0, c0, A1, c1, A, c, e, r0.keep hs hk, r1.keep hs hk, r2.keep hs hk⟩
theorem IsSt.size (h : IsSt w P cs L) : cs.size = 17 := by obtain ⟨A0, c0, A1, c1, A, c, rfl, _⟩ := h; rfl
theorem IsMan.size (h : IsMan w P cs M) : cs.size = 6 := by obtain ⟨A, c, rfl, _⟩ := h; rfl
theorem IsSt.one (h : IsSt w P cs L) : cs.all (·.oneCell') = true := by obtain ⟨A0, c0, A1, c1, A, c, rfl, _⟩ := h; simp [LSt.cells, Value.oneCell']
theorem IsMan.one (h : IsMan w P cs M) : cs.all (·.oneCell') = true := by obtain ⟨A, c, rfl, _⟩ := h; simp [LMan.cells, Value.oneCell']
theorem IsSt.inf (h : IsSt w P cs L) : (Tryd.prog.info? 30).map (·.size) = some cs.size := by rw [h.size]; kernel_rfl
theorem IsMan.inf (h : IsMan w P cs M) : (Tryd.prog.info? 28).map (·.size) = some cs.size := by rw [h.size]; kernel_rfl
theorem IsSt.c0 (h : IsSt w P cs L) : cs[0]? = some (.int .i64 L.act) := by obtain ⟨A0, c0, A1, c1, A, c, rfl, _⟩ := h; rfl
theorem IsSt.c1 (h : IsSt w P cs L) : cs[1]? = some (.int .i64 L.trial) := by obtain ⟨A0, c0, A1, c1, A, c, rfl, _⟩ := h; rfl
theorem IsSt.c2 (h : IsSt w P cs L) : cs[2]? = some (.int .u32 (L.flo : Int)) := by obtain ⟨A0, c0, A1, c1, A, c, rfl, _⟩ := h; rfl
theorem IsSt.c3 (h : IsSt w P cs L) : cs[3]? = some (.int .u32 (L.gen : Int)) := by obtain ⟨A0, c0, A1, c1, A, c, rfl, _⟩ := h; rfl
theorem IsSt.c4 (h : IsSt w P cs L) : cs[4]? = some (.int .u32 (L.v0 : Int)) := by obtain ⟨A0, c0, A1, c1, A, c, rfl, _⟩ := h; rfl
theorem IsSt.c5 (h : IsSt w P cs L) : cs[5]? = some (.int .i64 L.l0) := by obtain ⟨A0, c0, A1, c1, A, c, rfl, _⟩ := h; rfl
theorem IsSt.c7 (h : IsSt w P cs L) : cs[7]? = some (.int .u32 (L.v1 : Int)) := by obtain ⟨A0, c0, A1, c1, A, c, rfl, _⟩ := h; rfl
theorem IsSt.c8 (h : IsSt w P cs L) : cs[8]? = some (.int .i64 L.l1) := by obtain ⟨A0, c0, A1, c1, A, c, rfl, _⟩ := h; rfl
theorem IsSt.c10 (h : IsSt w P cs L) : cs[10]? = some (.bool L.on) := by obtain ⟨A0, c0, A1, c1, A, c, rfl, _⟩ := h; rfl
theorem IsSt.c12 (h : IsSt w P cs L) : cs[12]? = some (.int .u32 (L.m.v : Int)) := by obtain ⟨A0, c0, A1, c1, A, c, rfl, _⟩ := h; rfl
end
theorem st_in {W : World} {act trial : Int} {flo gen v0 : Nat} {l0 : Int} {A0 : Option Addr} {n0 c0 : Nat} {v1 : Nat} {l1 : Int} {A1 : Option Addr} {n1 c1 : Nat} {on : Bool} {s v : Nat} {l z p : Int} {A : Option Addr} {n c : Nat} {h0 h1 h : List UInt8} (r0 : Row W W.heap.size A0 n0 (bv h0)) (r1 : Row W W.heap.size A1 n1 (bv h1)) (r : Row W W.heap.size A n (bv h)) :
    IsSt W (fun _ => True) #[.int .i64 act, .int .i64 trial, .int .u32 (flo : Int), .int .u32 (gen : Int), .int .u32 (v0 : Int), .int .i64 l0, .slice A0 n0 c0, .int .u32 (v1 : Int), .int .i64 l1, .slice A1 n1 c1, .bool on, .int .u32 (s : Int), .int .u32 (v : Int), .int .i64 l, .int .i64 z, .int .i64 p, .slice A n c] ⟨act, trial, flo, gen, v0, l0, h0, v1, l1, h1, on, ⟨s, v, l, z, p, h⟩⟩ := by
  have e0 := r0.blen; have e1 := r1.blen; have e := r.blen
  subst e0 e1 e
  exact ⟨A0, c0, A1, c1, A, c, rfl, .of_row r0, .of_row r1, .of_row r⟩
theorem man_in {W : World} {s v : Nat} {l z p : Int} {A : Option Addr} {n c : Nat} {h : List UInt8} (r : Row W W.heap.size A n (bv h)) : IsMan W (fun _ => True) #[.int .u32 (s : Int), .int .u32 (v : Int), .int .i64 l, .int .i64 z, .int .i64 p, .slice A n c] ⟨s, v, l, z, p, h⟩ := by
  have e := r.blen
  subst e
  exact ⟨A, c, rfl, .of_row r⟩
def LMan.zero : LMan := ⟨0, 0, 0, 0, 0, []⟩
def LSt.zero : LSt := ⟨0, 0, 0, 0, 0, 0, [], 0, 0, [], false, LMan.zero⟩
theorem zero_is (w : World) (P : Nat → Prop) : IsSt w P zState LSt.zero := ⟨none, 0, none, 0, none, 0, rfl, .nil _ _ _, .nil _ _ _, .nil _ _ _⟩
def LMan.may (M : LMan) : Bool := manB M.l M.z M.p M.h.length
def LMan.eqb (M N : LMan) : Bool := decide (M.s = N.s ∧ M.v = N.v ∧ M.l = N.l ∧ M.z = N.z ∧ M.p = N.p ∧ M.h = N.h)
def LSt.may (L : LSt) : Bool := mayB2 L.act L.trial L.v0 L.l0 L.h0 L.v1 L.l1 L.h1 L.on L.m.s L.m.v L.m.l L.m.z L.m.p L.m.h
def LSt.drop (L : LSt) : LSt := if L.may then { L with on := false, m := LMan.zero } else LSt.zero
def LSt.light (L : LSt) : Prop := L.h0.length ≤ 100 ∧ L.h1.length ≤ 100 ∧ L.m.h.length ≤ 100
theorem light_of_may {L : LSt} (h : L.may = true) : L.light := by
  unfold LSt.light
  by_cases hh : 100 < L.h0.length ∨ 100 < L.h1.length ∨ 100 < L.m.h.length
  · have := heavy_not L.act L.trial L.v0 L.l0 L.v1 L.l1 L.on L.m.s L.m.v L.m.l L.m.z L.m.p L.h0 L.h1 L.m.h hh
    rw [LSt.may, this] at h; cases h
  · omega
section
variable {w : World} {P : Nat → Prop} {cs : Array Value} {L : LSt}
theorem mayS (h : IsSt w P cs L) : Calls Tryd.prog 6 #[.agg cs] w fun e w' => e = .returned (.bool L.may) ∧ Below w.heap.size w w' := by
  obtain ⟨A0, c0, A1, c1, A, c, rfl, r0, r1, r2⟩ := h
  exact may_any _ _ _ _ _ _ _ _ _ _ _ _ _ _ _ _ _ _ _ _ _ _ _ w.heap.size _ _ _ w r0.row r1.row r2.row (Nat.le_refl _)
theorem heavyS_no (h : IsSt w P cs L) (hl : L.light) : Calls Tryd.prog 5 #[.agg cs] w fun e w' => e = .returned (.int .i64 0) ∧ Below w.heap.size w w' := by
  obtain ⟨A0, c0, A1, c1, A, c, rfl, r0, r1, r2⟩ := h
  exact heavy_no _ _ _ _ _ _ _ _ _ _ _ _ _ _ _ _ _ _ _ _ _ _ _ w hl.1 hl.2.1 hl.2.2
theorem heavyS_yes (h : IsSt w P cs L) (hl : ¬ L.light) : Calls Tryd.prog 5 #[.agg cs] w fun e w' => e = .returned (.int .i64 1) ∧ Below w.heap.size w w' := by
  obtain ⟨A0, c0, A1, c1, A, c, rfl, r0, r1, r2⟩ := h
  exact heavy_yes _ _ _ _ _ _ _ _ _ _ _ _ _ _ _ _ _ _ _ _ _ _ _ w (by unfold LSt.light at hl; omega)
/-- a state is told, in memory of its own -/
def RetS (L : LSt) (w : World) (e : Ending) (w' : World) : Prop := ∃ cs, e = .returned (.agg cs) ∧ Hid (IsSt w' (fun b => w.heap.size ≤ b) cs L) ∧ Hid (Below w.heap.size w w')
end
/-- what holds since world w: boxes, states, manifests -/
structure Env (w W : World) (bx : List (Nat × Array Value × TypeId)) (sts : List (Array Value × LSt)) (mans : List (Array Value × LMan)) : Prop where
  b : Below w.heap.size w W
  bx : ∀ g cs t, (g, cs, t) ∈ bx → W.heap[g]? = some (.cells cs t (0, 0))
  st : ∀ cs L, (cs, L) ∈ sts → IsSt W (fun _ => True) cs L
  mn : ∀ cs M, (cs, M) ∈ mans → IsMan W (fun _ => True) cs M
section
variable {w W W' : World} {bx : List (Nat × Array Value × TypeId)} {sts : List (Array Value × LSt)} {mans : List (Array Value × LMan)}
theorem Env.below (h : Env w W bx sts mans) (hb : Below W.heap.size W W') : Env w W' bx sts mans :=
  ⟨h.b.trans (hb.mono h.b.size), fun g cs t hm => (hb.block g (Array.getElem?_eq_some_iff.1 (h.bx g cs t hm)).1).trans (h.bx g cs t hm), fun cs L hm => (h.st cs L hm).below hb, fun cs M hm => (h.mn cs M hm).below hb⟩
theorem Env.addSt (h : Env w W bx sts mans) {P : Nat → Prop} {cs : Array Value} {L : LSt} (hs : IsSt W P cs L) : Env w W bx ((cs, L) :: sts) mans :=
  ⟨h.b, h.bx, fun cs' L' hm => by
    rcases List.mem_cons.1 hm with e | e
    · injection e with e1 e2; subst e1 e2; exact hs.imp fun _ _ _ => trivial
    · exact h.st _ _ e, h.mn⟩
theorem Env.addMan (h : Env w W bx sts mans) {P : Nat → Prop} {cs : Array Value} {M : LMan} (hs : IsMan W P cs M) : Env w W bx sts ((cs, M) :: mans) :=
  ⟨h.b, h.bx, h.st, fun cs' M' hm => by
    rcases List.mem_cons.1 hm with e | e
    · injection e with e1 e2; subst e1 e2; exact hs.imp fun _ _ _ => trivial
    · exact h.mn _ _ e⟩
theorem Env.addBx (h : Env w W bx sts mans) {g : Nat} {cs : Array Value} {t : TypeId} (hs : W.heap[g]? = some (.cells cs t (0, 0))) : Env w W ((g, cs, t) :: bx) sts mans :=
  ⟨h.b, fun g' cs' t' hm => by
    rcases List.mem_cons.1 hm with e | e
    · injection e with e1 e2; injection e2 with e2 e3; subst e1 e2 e3; exact hs
    · exact h.bx _ _ _ e, h.st, h.mn⟩
theorem Env.alloc (h : Env w W bx sts mans) (cs : Array Value) (t : TypeId) : Env w (W.alloc (.cells cs t)) ((W.heap.size, cs, t) :: bx) sts mans :=
  (h.below ((Below.refl _ _).alloc (Nat.le_refl _) _)).addBx (heap_alloc_new W (.cells cs t))
theorem Env.start (w : World) : Env w w [] [] [] :=
  ⟨Below.refl _ _, fun _ _ _ h => (by cases h), fun _ _ h => (by cases h), fun _ _ h => (by cases h)⟩
theorem Env.cell (h : Env w W bx sts mans) {g : Nat} {cs : Array Value} {t : TypeId} (hm : (g, cs, t) ∈ bx) (k : Nat) : W.cell? ⟨g, k, none⟩ = cs[k]? :=
  cell_of_row W g k cs t (0, 0) (h.bx g cs t hm)
end
end Go.Proofs.YtoclckfpbmglfaaDoor
namespace Go.Proofs.YtoclckfpbmglfaaDoor
open Go.RowKit
def LSt.newer (L : LSt) (ver : Nat) : Bool := newB L.may L.act L.flo L.v0 L.v1 L.on L.m.v ver
def LSt.admitR (L : LSt) (M : LMan) : Int :=
  if (L.may && M.may) = false then 1 else if L.trial ≠ 0 then 12 else if (L.on && L.m.eqb M) = true then 8 else if L.newer M.v = false then 6 else if 4294967294 ≤ L.gen then 9 else 0
def LSt.admitted (L : LSt) (M : LMan) : LSt := { L with gen := L.gen + 1, on := true, m := M }
section
variable {w : World} {P : Nat → Prop} {cs : Array Value} {L : LSt}
theorem dropS (h : IsSt w P cs L) (hl : L.light) : Calls Tryd.prog 18 #[.agg cs] w (RetS L.drop w) := by
  obtain ⟨A0, c0, A1, c1, A, c, rfl, r0, r1, r2⟩ := h
  obtain ⟨l0, l1, l2⟩ := hl
  cases hm : L.may with
  | false =>
    refine (drop_no _ _ _ _ _ _ _ _ _ _ _ _ _ _ _ _ _ _ _ _ _ _ _ w.heap.size _ _ _ w hm r0.row r1.row r2.row (Nat.le_refl _) (by omega) (by omega) (by omega)).mono fun e w' ⟨he, hb⟩ => ?_
    refine ⟨zState, he, ?_, hb⟩
    rw [LSt.drop, hm]
    exact zero_is _ _
  | true =>
    refine (drop_yes _ _ _ _ _ _ _ _ _ _ _ _ _ _ _ _ _ _ _ _ _ _ _ w.heap.size _ _ _ w hm r0.row r1.row r2.row (Nat.le_refl _) (by omega) (by omega) (by omega)).mono fun e w' ⟨B0, d0, B1, d1, B, d, he, s0, s1, s2, hb⟩ => ?_
    refine ⟨_, he, ?_, hb⟩
    rw [LSt.drop, hm]
    exact ⟨B0, d0, B1, d1, B, d, rfl, s0.out, s1.out, s2.out⟩
def AdmitYesS (L : LSt) (M : LMan) (w : World) (e : Ending) (w' : World) : Prop := ∃ cs, e = .returned (.tuple #[.agg cs, .int .i64 0]) ∧ Hid (IsSt w' (fun b => w.heap.size ≤ b) cs (L.admitted M)) ∧ Hid (Below w.heap.size w w')
end
end Go.Proofs.YtoclckfpbmglfaaDoor
namespace Go.Proofs.YtoclckfpbmglfaaDoor
theorem admitR_zero {L : LSt} {M : LMan} (h : L.admitR M = 0) : L.may = true ∧ M.may = true ∧ L.trial = 0 ∧ (L.on && L.m.eqb M) = false ∧ L.newer M.v = true ∧ L.gen < 4294967294 := by
  unfold LSt.admitR at h
  by_cases h1 : (L.may && M.may) = false
  · rw [if_pos h1] at h; exact absurd h (by decide)
  rw [if_neg h1] at h
  by_cases h2 : L.trial ≠ 0
  · rw [if_pos h2] at h; exact absurd h (by decide)
  rw [if_neg h2] at h
  by_cases h3 : (L.on && L.m.eqb M) = true
  · rw [if_pos h3] at h; exact absurd h (by decide)
  rw [if_neg h3] at h
  by_cases h4 : L.newer M.v = false
  · rw [if_pos h4] at h; exact absurd h (by decide)
  rw [if_neg h4] at h
  by_cases h5 : 4294967294 ≤ L.gen
  · rw [if_pos h5] at h; exact absurd h (by decide)
  rw [Bool.not_eq_false, Bool.and_eq_true] at h1
  exact ⟨h1.1, h1.2, Decidable.not_not.1 h2, by simpa using h3, by simpa using h4, by omega⟩
theorem may_man {L : LSt} {M : LMan} (h : L.may = true) (hm : M.may = true) (g : Nat) : ({ L with gen := g, on := true, m := M } : LSt).may = true := by
  unfold LSt.may mayB2 at h ⊢
  simp only [Bool.and_eq_true] at h ⊢
  exact ⟨⟨h.1.1, hm⟩, h.2⟩
theorem may_off {L : LSt} (h : L.may = true) : ({ L with on := false, m := LMan.zero } : LSt).may = true := may_less h
theorem newer_parts {L : LSt} {v : Nat} (h : L.newer v = true) : L.flo < v ∧ (if L.act = 0 then L.v0 else L.v1) < v ∧ (L.on = true → L.m.v < v) := by
  unfold LSt.newer newB at h
  simp only [Bool.and_eq_true, Bool.or_eq_true, decide_eq_true_eq] at h
  obtain ⟨⟨⟨_, h1⟩, h2⟩, h3⟩ := h
  refine ⟨h1, h2, fun ho => ?_⟩
  rcases h3 with h3 | h3
  · rw [ho] at h3; exact absurd h3 (by decide)
  · exact h3
theorem newer_of {L : LSt} {v : Nat} (hm : L.may = true) (h1 : L.flo < v) (h2 : (if L.act = 0 then L.v0 else L.v1) < v) (h3 : L.on = true → L.m.v < v) : L.newer v = true := by
  unfold LSt.newer newB
  simp only [Bool.and_eq_true, Bool.or_eq_true, decide_eq_true_eq]
  refine ⟨⟨⟨hm, h1⟩, h2⟩, ?_⟩
  cases ho : L.on with
  | false => exact .inl rfl
  | true => exact .inr (h3 ho)
theorem admitR_off {L : LSt} {M : LMan} (hm : L.may = true) (hM : M.may = true) (ht : L.trial = 0) (ho : L.on = false) (hn : L.newer M.v = true) : L.admitR M = if 4294967294 ≤ L.gen then 9 else 0 := by
  unfold LSt.admitR
  rw [if_neg (by simp [hm, hM]), if_neg (by simp [ht]), if_neg (by simp [ho]), if_neg (by simp [hn])]
theorem admitted_drop {L : LSt} {M : LMan} (h : L.admitR M = 0) : (L.admitted M).may = true ∧ (L.admitted M).light ∧ (L.admitted M).drop = { L.admitted M with on := false, m := LMan.zero } ∧ (L.admitted M).drop.light ∧
    ((L.admitted M).drop.admitR M = if 4294967294 ≤ L.gen + 1 then 9 else 0) ∧ (L.admitted M).drop.admitted M = { L with gen := L.gen + 2, on := true, m := M } ∧ ({ L with gen := L.gen + 2, on := true, m := M } : LSt).may = true ∧ (L.admitted M).drop.newer M.v = true ∧ (L.admitted M).newer M.v = false := by
  obtain ⟨hl, hM, ht, _, hn, _⟩ := admitR_zero h
  obtain ⟨n1, n2, _⟩ := newer_parts hn
  have hm1 : (L.admitted M).may = true := may_man hl hM _
  have hd : (L.admitted M).drop = { L.admitted M with on := false, m := LMan.zero } := by unfold LSt.drop; rw [if_pos hm1]
  have hdm : ({ L.admitted M with on := false, m := LMan.zero } : LSt).may = true := may_off hm1
  have hdn : ({ L.admitted M with on := false, m := LMan.zero } : LSt).newer M.v = true := newer_of hdm n1 n2 (fun h => Bool.noConfusion (show false = true from h))
  refine ⟨hm1, light_of_may hm1, hd, ?_, ?_, ?_, may_man hl hM _, ?_, ?_⟩
  · rw [hd]; exact light_of_may hdm
  · rw [hd]; exact admitR_off hdm hM ht rfl hdn
  · rw [hd]; rfl
  · rw [hd]; exact hdn
  · cases hx : (L.admitted M).newer M.v with
    | false => rfl
    | true => exact absurd ((newer_parts hx).2.2 rfl) (Nat.lt_irrefl _)
end Go.Proofs.YtoclckfpbmglfaaDoor
namespace Go.Proofs.YtoclckfpbmglfaaDoor
open Go.RowKit
def LSt.eqb (L K : LSt) : Bool := decide (L.act = K.act ∧ L.trial = K.trial ∧ L.flo = K.flo ∧ L.gen = K.gen ∧ (L.v0 = K.v0 ∧ L.l0 = K.l0 ∧ L.h0 = K.h0) ∧ (L.v1 = K.v1 ∧ L.l1 = K.l1 ∧ L.h1 = K.h1) ∧ L.on = K.on ∧ (L.m.s = K.m.s ∧ L.m.v = K.m.v ∧ L.m.l = K.m.l ∧ L.m.z = K.m.z ∧ L.m.p = K.m.p ∧ L.m.h = K.m.h))
theorem eqb_refl (L : LSt) : L.eqb L = true := by simp [LSt.eqb]
def SameOk (b : Bool) (w : World) (e : Ending) (w' : World) : Prop := e = .returned (.bool b) ∧ Below w.heap.size w w'
set_option maxRecDepth 100000 in
set_option maxHeartbeats 3200000 in
theorem sameS {w : World} {P Q : Nat → Prop} {cs ds : Array Value} {L K : LSt} (hl : IsSt w P cs L) (hk : IsSt w Q ds K) :
    Calls Tryd.prog 10 #[.agg cs, .agg ds] w (SameOk (L.eqb K) w) := by
  obtain ⟨LA0, Lc0, LA1, Lc1, LA, Lc, rfl, l0, l1, l2⟩ := hl
  obtain ⟨KA0, Kc0, KA1, Kc1, KA, Kc, rfl, k0, k1, k2⟩ := hk
  have hx := heap_alloc2_old w (.cells (L.cells LA0 Lc0 LA1 Lc1 LA Lc) 30) (.cells (K.cells KA0 Kc0 KA1 Kc1 KA Kc) 30)
  have hy := heap_alloc2_new w (.cells (L.cells LA0 Lc0 LA1 Lc1 LA Lc) 30) (.cells (K.cells KA0 Kc0 KA1 Kc1 KA Kc) 30)
  have hb : Below w.heap.size w ((w.alloc (.cells (L.cells LA0 Lc0 LA1 Lc1 LA Lc) 30)).alloc (.cells (K.cells KA0 Kc0 KA1 Kc1 KA Kc) 30)) := ((Below.refl _ _).alloc (Nat.le_refl _) _).alloc (by simp) _
  have HL := Lib.hid (And.intro (Array.getElem?_eq_some_iff.1 hx).1 hx)
  have HK := Lib.hid (And.intro (Array.getElem?_eq_some_iff.1 hy).1 hy)
  have HB := Lib.hid hb
  have L0 := Lib.hid l0
  have L1 := Lib.hid l1
  have L2 := Lib.hid l2
  have K0 := Lib.hid k0
  have K1 := Lib.hid k1
  have K2 := Lib.hid k2
  clear hx hy hb l0 l1 l2 k0 k1 k2
  obtain ⟨B, hB⟩ : ∃ B, L.eqb K = B := ⟨_, rfl⟩
  rw [hB]
  have HE := Lib.hid hB
  clear hB
  unfold LSt.eqb at HE
  go_enter Tryd.func10, Tryd.ntmps10
  go_upto_region 1 with fail
  generalize ((w.alloc (.cells (L.cells LA0 Lc0 LA1 Lc1 LA Lc) 30)).alloc (.cells (K.cells KA0 Kc0 KA1 Kc1 KA Kc) 30)) = w1 at *
  have xL := ((Below.refl w1.heap.size w1).block w.heap.size HL.out.1).trans HL.out.2
  have cL0 : w1.cell? ⟨w.heap.size, 0, none⟩ = some (.int .i64 L.act) := by rw [cell_of_row w1 _ 0 _ _ (0, 0) xL]; rfl
  have cL1 : w1.cell? ⟨w.heap.size, 1, none⟩ = some (.int .i64 L.trial) := by rw [cell_of_row w1 _ 1 _ _ (0, 0) xL]; rfl
  have cL2 : w1.cell? ⟨w.heap.size, 2, none⟩ = some (.int .u32 (L.flo : Int)) := by rw [cell_of_row w1 _ 2 _ _ (0, 0) xL]; rfl
  have cL3 : w1.cell? ⟨w.heap.size, 3, none⟩ = some (.int .u32 (L.gen : Int)) := by rw [cell_of_row w1 _ 3 _ _ (0, 0) xL]; rfl
  have cL4 : w1.cell? ⟨w.heap.size, 4, none⟩ = some (.int .u32 (L.v0 : Int)) := by rw [cell_of_row w1 _ 4 _ _ (0, 0) xL]; rfl
  have cL5 : w1.cell? ⟨w.heap.size, 5, none⟩ = some (.int .i64 L.l0) := by rw [cell_of_row w1 _ 5 _ _ (0, 0) xL]; rfl
  have cL6 : w1.cell? ⟨w.heap.size, 6, none⟩ = some (.slice LA0 L.h0.length Lc0) := by rw [cell_of_row w1 _ 6 _ _ (0, 0) xL]; rfl
  clear xL
  have xK := ((Below.refl w1.heap.size w1).block (w.heap.size + 1) HK.out.1).trans HK.out.2
  have cK0 : w1.cell? ⟨(w.heap.size + 1), 0, none⟩ = some (.int .i64 K.act) := by rw [cell_of_row w1 _ 0 _ _ (0, 0) xK]; rfl
  have cK1 : w1.cell? ⟨(w.heap.size + 1), 1, none⟩ = some (.int .i64 K.trial) := by rw [cell_of_row w1 _ 1 _ _ (0, 0) xK]; rfl
  have cK2 : w1.cell? ⟨(w.heap.size + 1), 2, none⟩ = some (.int .u32 (K.flo : Int)) := by rw [cell_of_row w1 _ 2 _ _ (0, 0) xK]; rfl
  have cK3 : w1.cell? ⟨(w.heap.size + 1), 3, none⟩ = some (.int .u32 (K.gen : Int)) := by rw [cell_of_row w1 _ 3 _ _ (0, 0) xK]; rfl
  have cK4 : w1.cell? ⟨(w.heap.size + 1), 4, none⟩ = some (.int .u32 (K.v0 : Int)) := by rw [cell_of_row w1 _ 4 _ _ (0, 0) xK]; rfl
  have cK5 : w1.cell? ⟨(w.heap.size + 1), 5, none⟩ = some (.int .i64 K.l0) := by rw [cell_of_row w1 _ 5 _ _ (0, 0) xK]; rfl
  have cK6 : w1.cell? ⟨(w.heap.size + 1), 6, none⟩ = some (.slice KA0 K.h0.length Kc0) := by rw [cell_of_row w1 _ 6 _ _ (0, 0) xK]; rfl
  clear xK
  by_cases e0 : L.act = K.act
  case neg =>
    have q0 : ((L.act : Int) == (K.act : Int)) = false := by simp; omega
    have hbf : B = false := by rw [← HE.out]; simp [e0]
    subst hbf
    go_wp2_with fail
    go_ret
    exact ⟨rfl, HB.out⟩
  have q0 : ((L.act : Int) == (K.act : Int)) = true := by simp; omega
  by_cases e1 : L.trial = K.trial
  case neg =>
    have q1 : ((L.trial : Int) == (K.trial : Int)) = false := by simp; omega
    have hbf : B = false := by rw [← HE.out]; simp [e1]
    subst hbf
    go_wp2_with fail
    go_ret
    exact ⟨rfl, HB.out⟩
  have q1 : ((L.trial : Int) == (K.trial : Int)) = true := by simp; omega
  by_cases e2 : L.flo = K.flo
  case neg =>
    have q2 : ((L.flo : Int) == (K.flo : Int)) = false := by simp; omega
    have hbf : B = false := by rw [← HE.out]; simp [e2]
    subst hbf
    go_wp2_with fail
    go_ret
    exact ⟨rfl, HB.out⟩
  have q2 : ((L.flo : Int) == (K.flo : Int)) = true := by simp; omega
  by_cases e3 : L.gen = K.gen
  case neg =>
    have q3 : ((L.gen : Int) == (K.gen : Int)) = false := by simp; omega
    have hbf : B = false := by rw [← HE.out]; simp [e3]
    subst hbf
    go_wp2_with fail
    go_ret
    exact ⟨rfl, HB.out⟩
  have q3 : ((L.gen : Int) == (K.gen : Int)) = true := by simp; omega
  go_wp2_with fail
  refine (slotSame_any L.v0 K.v0 L.l0 K.l0 w1.heap.size L.h0.length Lc0 K.h0.length Kc0 LA0 KA0 L.h0 K.h0 w1 ((L0.out.row.below HB.out).more HB.out.size) ((K0.out.row.below HB.out).more HB.out.size) (Nat.le_refl _)).mono ?_
  rintro e w2 ⟨b, rfl, hbb, hb2⟩
  have HB2 := Lib.hid (HB.out.trans (hb2.mono HB.out.size))
  have H12 := Lib.hid hb2
  have HBB := Lib.hid hbb.out
  clear cL0 cL1 cL2 cL3 cL4 cL5 cL6 cK0 cK1 cK2 cK3 cK4 cK5 cK6
  clear hbb hb2
  have xL := (H12.out.block w.heap.size HL.out.1).trans HL.out.2
  have cL7 : w2.cell? ⟨w.heap.size, 7, none⟩ = some (.int .u32 (L.v1 : Int)) := by rw [cell_of_row w2 _ 7 _ _ (0, 0) xL]; rfl
  have cL8 : w2.cell? ⟨w.heap.size, 8, none⟩ = some (.int .i64 L.l1) := by rw [cell_of_row w2 _ 8 _ _ (0, 0) xL]; rfl
  have cL9 : w2.cell? ⟨w.heap.size, 9, none⟩ = some (.slice LA1 L.h1.length Lc1) := by rw [cell_of_row w2 _ 9 _ _ (0, 0) xL]; rfl
  clear xL
  have xK := (H12.out.block (w.heap.size + 1) HK.out.1).trans HK.out.2
  have cK7 : w2.cell? ⟨(w.heap.size + 1), 7, none⟩ = some (.int .u32 (K.v1 : Int)) := by rw [cell_of_row w2 _ 7 _ _ (0, 0) xK]; rfl
  have cK8 : w2.cell? ⟨(w.heap.size + 1), 8, none⟩ = some (.int .i64 K.l1) := by rw [cell_of_row w2 _ 8 _ _ (0, 0) xK]; rfl
  have cK9 : w2.cell? ⟨(w.heap.size + 1), 9, none⟩ = some (.slice KA1 K.h1.length Kc1) := by rw [cell_of_row w2 _ 9 _ _ (0, 0) xK]; rfl
  clear xK
  cases b with
  | false =>
    have hbf : B = false := by
      rw [← HE.out, decide_eq_false_iff_not]
      intro h
      exact absurd HBB.out (by rw [decide_eq_true h.2.2.2.2.1]; decide)
    subst hbf
    go_wp2_with fail
    go_ret
    exact ⟨rfl, HB2.out⟩
  | true =>
    have E4 := Lib.hid (of_decide_eq_true HBB.out.symm)
    clear HBB
    go_wp2_with fail
    refine (slotSame_any L.v1 K.v1 L.l1 K.l1 w2.heap.size L.h1.length Lc1 K.h1.length Kc1 LA1 KA1 L.h1 K.h1 w2 ((L1.out.row.below HB2.out).more HB2.out.size) ((K1.out.row.below HB2.out).more HB2.out.size) (Nat.le_refl _)).mono ?_
    rintro e w3 ⟨b, rfl, hbb, hb3⟩
    have HB3 := Lib.hid (HB2.out.trans (hb3.mono HB2.out.size))
    have H13 := Lib.hid (H12.out.trans (hb3.mono H12.out.size))
    have HBB := Lib.hid hbb.out
    clear cL7 cL8 cL9 cK7 cK8 cK9
    clear hbb hb3
    have xL := (H13.out.block w.heap.size HL.out.1).trans HL.out.2
    have cL10 : w3.cell? ⟨w.heap.size, 10, none⟩ = some (.bool L.on) := by rw [cell_of_row w3 _ 10 _ _ (0, 0) xL]; rfl
    have cL11 : w3.cell? ⟨w.heap.size, 11, none⟩ = some (.int .u32 (L.m.s : Int)) := by rw [cell_of_row w3 _ 11 _ _ (0, 0) xL]; rfl
    have cL12 : w3.cell? ⟨w.heap.size, 12, none⟩ = some (.int .u32 (L.m.v : Int)) := by rw [cell_of_row w3 _ 12 _ _ (0, 0) xL]; rfl
    have cL13 : w3.cell? ⟨w.heap.size, 13, none⟩ = some (.int .i64 L.m.l) := by rw [cell_of_row w3 _ 13 _ _ (0, 0) xL]; rfl
    have cL14 : w3.cell? ⟨w.heap.size, 14, none⟩ = some (.int .i64 L.m.z) := by rw [cell_of_row w3 _ 14 _ _ (0, 0) xL]; rfl
    have cL15 : w3.cell? ⟨w.heap.size, 15, none⟩ = some (.int .i64 L.m.p) := by rw [cell_of_row w3 _ 15 _ _ (0, 0) xL]; rfl
    have cL16 : w3.cell? ⟨w.heap.size, 16, none⟩ = some (.slice LA L.m.h.length Lc) := by rw [cell_of_row w3 _ 16 _ _ (0, 0) xL]; rfl
    clear xL
    have xK := (H13.out.block (w.heap.size + 1) HK.out.1).trans HK.out.2
    have cK10 : w3.cell? ⟨(w.heap.size + 1), 10, none⟩ = some (.bool K.on) := by rw [cell_of_row w3 _ 10 _ _ (0, 0) xK]; rfl
    have cK11 : w3.cell? ⟨(w.heap.size + 1), 11, none⟩ = some (.int .u32 (K.m.s : Int)) := by rw [cell_of_row w3 _ 11 _ _ (0, 0) xK]; rfl
    have cK12 : w3.cell? ⟨(w.heap.size + 1), 12, none⟩ = some (.int .u32 (K.m.v : Int)) := by rw [cell_of_row w3 _ 12 _ _ (0, 0) xK]; rfl
    have cK13 : w3.cell? ⟨(w.heap.size + 1), 13, none⟩ = some (.int .i64 K.m.l) := by rw [cell_of_row w3 _ 13 _ _ (0, 0) xK]; rfl
    have cK14 : w3.cell? ⟨(w.heap.size + 1), 14, none⟩ = some (.int .i64 K.m.z) := by rw [cell_of_row w3 _ 14 _ _ (0, 0) xK]; rfl
    have cK15 : w3.cell? ⟨(w.heap.size + 1), 15, none⟩ = some (.int .i64 K.m.p) := by rw [cell_of_row w3 _ 15 _ _ (0, 0) xK]; rfl
    have cK16 : w3.cell? ⟨(w.heap.size + 1), 16, none⟩ = some (.slice KA K.m.h.length Kc) := by rw [cell_of_row w3 _ 16 _ _ (0, 0) xK]; rfl
    clear xK
    cases b with
    | false =>
      have hbf : B = false := by
        rw [← HE.out, decide_eq_false_iff_not]
        intro h
        exact absurd HBB.out (by rw [decide_eq_true h.2.2.2.2.2.1]; decide)
      subst hbf
      go_wp2_with fail
      go_ret
      exact ⟨rfl, HB3.out⟩
    | true =>
      have E5 := Lib.hid (of_decide_eq_true HBB.out.symm)
      clear HBB
      by_cases e6 : L.on = K.on
      case neg =>
        have q6 : (L.on == K.on) = false := by simpa using e6
        have hbf : B = false := by
          rw [← HE.out, decide_eq_false_iff_not]
          intro h
          exact e6 h.2.2.2.2.2.2.1
        subst hbf
        go_wp2_with fail
        go_ret
        exact ⟨rfl, HB3.out⟩
      have q6 : (L.on == K.on) = true := by simpa using e6
      go_wp2_with fail
      refine (manSame_any L.m.s L.m.v K.m.s K.m.v L.m.l L.m.z L.m.p K.m.l K.m.z K.m.p w3.heap.size L.m.h.length Lc K.m.h.length Kc LA KA L.m.h K.m.h w3 ((L2.out.row.below HB3.out).more HB3.out.size) ((K2.out.row.below HB3.out).more HB3.out.size) (Nat.le_refl _)).mono ?_
      rintro e w4 ⟨b, rfl, hbb, hb4⟩
      have HB4 := Lib.hid (HB3.out.trans (hb4.mono HB3.out.size))
      have hbf : b = B := by
        rw [← HE.out, hbb.out]
        apply Bool.eq_iff_iff.2
        rw [decide_eq_true_eq, decide_eq_true_eq]
        exact ⟨fun h => ⟨e0, e1, e2, e3, E4.out, E5.out, e6, h⟩, fun h => h.2.2.2.2.2.2.2⟩
      subst hbf
      clear hbb hb4
      clear cL10 cL11 cL12 cL13 cL14 cL15 cL16 cK10 cK11 cK12 cK13 cK14 cK15 cK16
      go_wp2_with fail
      go_ret
      exact ⟨rfl, HB4.out⟩
end Go.Proofs.YtoclckfpbmglfaaDoor
