/- A call of the wheel (three numbers, one of 32 bits, a byte slice) that came in by value; a row of them. -/
import Derived.Deep.Slices
import Derived.Test.YtoblapnnpjgpnaaGreatDoorZHQ
import Derived.Test.YtoblapnnpjgpnaaGreatDoorZAQ
namespace Go.Proofs.YtoblapnnpjgpnaaGreatDoor
open Go.ChangeShapes Go.WideShapes Go.ChangeAt Go.RowKit
/-- what a call is made of -/
structure WCall where
  d : Int
  s : Int
  a : Int
  n : Nat
  A : Option Addr
  m : Nat
  c : Nat
  l : List UInt8
def WCall.vals (x : WCall) : List Value := [.int .i64 x.d, .int .i64 x.s, .int .i64 x.a, .int .u32 (x.n : Int), .slice x.A x.m x.c]
def WCall.good (W : World) (x : WCall) : Prop :=
  Row W W.heap.size x.A x.m (bv x.l) ∧ x.m ≤ x.c ∧ x.c ≤ 9223372036854775807 ∧ (-9223372036854775808 ≤ x.d ∧ x.d ≤ 9223372036854775807) ∧ (-9223372036854775808 ≤ x.s ∧ x.s ≤ 9223372036854775807) ∧ (-9223372036854775808 ≤ x.a ∧ x.a ≤ 9223372036854775807) ∧ x.n < 4294967296
theorem open_wcells {H : Type} {enc : TypeId × Value → H} {P : Program} {W : World} {t e : TypeId} {fuel : Nat} {cs : List Value} {x : DataW H × List MemPlace} {f0 f1 f2 f3 f4 : Field}
    (ht : P.underlying t = some (.struct #[f0, f1, f2, f3, f4])) (ho : f0.offset = 0 ∧ f1.offset = 1 ∧ f2.offset = 2 ∧ f3.offset = 3 ∧ f4.offset = 4)
    (h0 : P.underlying f0.type = some (.int .i64)) (h1 : P.underlying f1.type = some (.int .i64)) (h2 : P.underlying f2.type = some (.int .i64)) (h3 : P.underlying f3.type = some (.int .u32)) (h4 : P.underlying f4.type = some (.slice e))
    (he : P.underlying e = some (.int .u8)) (hc : P.cellsOf e = 1) (hcs : P.cellsOf f0.type = 1 ∧ P.cellsOf f1.type = 1 ∧ P.cellsOf f2.type = 1 ∧ P.cellsOf f3.type = 1 ∧ P.cellsOf f4.type = 1) (hct : P.cellsOf t = 5)
    (hf : DataW.trod enc P W 0 (fun _ => true) true fuel t cs = some x) : ∃ y : WCall, cs = y.vals ∧ y.good W := by
  obtain ⟨xs, m, _, _, hlen, hxl, hx⟩ := DataW.trod_struct ht hf
  rw [hct] at hlen
  match cs, hlen with
  | [c0, c1, c2, c3, c4], _ =>
    have hxl4 : xs.length = 5 := hxl
    have g0 := hx 0 f0 rfl
    have g1 := hx 1 f1 rfl
    have g2 := hx 2 f2 rfl
    have g3 := hx 3 f3 rfl
    have g4 := hx 4 f4 rfl
    rw [ho.1, hcs.1, List.getElem?_eq_getElem (by omega)] at g0
    rw [ho.2.1, hcs.2.1, List.getElem?_eq_getElem (by omega)] at g1
    rw [ho.2.2.1, hcs.2.2.1, List.getElem?_eq_getElem (by omega)] at g2
    rw [ho.2.2.2.1, hcs.2.2.2.1, List.getElem?_eq_getElem (by omega)] at g3
    rw [ho.2.2.2.2, hcs.2.2.2.2, List.getElem?_eq_getElem (by omega)] at g4
    obtain ⟨d, hd, hdl⟩ := open_ci64 h0 g0
    obtain ⟨s, hs, hsl⟩ := open_ci64 h1 g1
    obtain ⟨a, ha, hal⟩ := open_ci64 h2 g2
    obtain ⟨n, hn, hnl⟩ := open_cu32 h3 g3
    obtain ⟨A, k, cap, l, hl, hrow, hk, hcap⟩ := open_cbytes h4 he hc g4
    simp at hd hs ha hn hl
    subst hd hs ha hn hl
    exact ⟨⟨d, s, a, n, A, k, cap, l⟩, rfl, hrow, hk, hcap, hdl, hsl, hal, hnl⟩
theorem list_ofw {α : Type} {p : Nat → α → Prop} (n : Nat) (h : ∀ i, i < n → ∃ y, p i y) : ∃ ys : List α, ys.length = n ∧ ∀ i (hi : i < ys.length), p i ys[i] := by
  induction n with
  | zero => exact ⟨[], rfl, fun i hi => absurd hi (by simp)⟩
  | succ k ih =>
    obtain ⟨ys, hl1, hy1⟩ := ih (fun i hi => h i (by omega))
    obtain ⟨y, hy⟩ := h k (by omega)
    refine ⟨ys ++ [y], by simp [hl1], fun i hi => ?_⟩
    by_cases hik : i < ys.length
    · rw [List.getElem_append_left hik]; exact hy1 i hik
    · have : i = k := by simp at hi; omega
      subst this
      rw [List.getElem_append_right (by omega)]
      simp only [hl1, Nat.sub_self, List.getElem_cons_zero]
      exact hy
/-- a row of calls: each one's five cells -/
def WCalls (W : World) (A : Option Addr) (n : Nat) (ys : List WCall) : Prop :=
  ys.length = n ∧ (∀ y ∈ ys, y.good W) ∧ (0 < n → ∃ b o, A = some ⟨b, o, none⟩ ∧ b < W.heap.size ∧ ∀ i (hi : i < ys.length), ∀ j v, ys[i].vals[j]? = some v → W.cell? ⟨b, o + (i * 5 + j), none⟩ = some v)
theorem open_wcallrow {H : Type} {enc : TypeId × Value → H} {P : Program} {W : World} {base : Nat} {t q e : TypeId} {v : Value} {d : DataW H} {ps : List MemPlace} {f0 f1 f2 f3 f4 : Field} (htq : P.underlying t = some (.slice q))
    (ht : P.underlying q = some (.struct #[f0, f1, f2, f3, f4])) (ho : f0.offset = 0 ∧ f1.offset = 1 ∧ f2.offset = 2 ∧ f3.offset = 3 ∧ f4.offset = 4)
    (h0 : P.underlying f0.type = some (.int .i64)) (h1 : P.underlying f1.type = some (.int .i64)) (h2 : P.underlying f2.type = some (.int .i64)) (h3 : P.underlying f3.type = some (.int .u32)) (h4 : P.underlying f4.type = some (.slice e))
    (he : P.underlying e = some (.int .u8)) (hc : P.cellsOf e = 1) (hcs : P.cellsOf f0.type = 1 ∧ P.cellsOf f1.type = 1 ∧ P.cellsOf f2.type = 1 ∧ P.cellsOf f3.type = 1 ∧ P.cellsOf f4.type = 1) (hct : P.cellsOf q = 5)
    (hval : Value.okWide P W .any base t v) (h : DataW.Trod enc P W 0 (fun _ => true) true t v d ps) : ∃ (A : Option Addr) (n cap : Nat) (ys : List WCall), v = .slice A n cap ∧ WCalls W A n ys ∧ n ≤ cap ∧ cap ≤ 9223372036854775807 := by
  obtain ⟨a0, len, cap, rfl⟩ := okWide_slice htq hval
  obtain ⟨fuel, hf⟩ := h
  rcases Go.Deep.open_slice htq hf with ⟨hcs', _⟩ | ⟨a, len', cap', m, nf, D, Pl, hcs', _, hl, hm, hmm, _, hi⟩
  · simp [Value.cells] at hcs'
    obtain ⟨rfl, rfl, rfl⟩ := hcs'
    exact ⟨none, 0, 0, [], rfl, ⟨rfl, (fun y hy => by cases hy), fun h => absurd h (by omega)⟩, Nat.le_refl _, by omega⟩
  · simp [Value.cells] at hcs'
    obtain ⟨rfl, rfl, rfl⟩ := hcs'
    rw [if_pos rfl] at hmm
    unfold maxLen at hm
    rw [hct] at hi
    have key : ∀ i, i < len → ∃ y : WCall, y.good W ∧ ∀ j v, y.vals[j]? = some v → W.cell? (a.add (i * 5 + j)) = some v := by
      intro i hil
      obtain ⟨cs, hcells, htr⟩ := hi i (by omega)
      obtain ⟨y, hy, hg⟩ := open_wcells ht ho h0 h1 h2 h3 h4 he hc hcs hct htr
      obtain ⟨_, hcl, hat⟩ := World.cells?_some hcells
      refine ⟨y, hg, fun j v hv => ?_⟩
      have hj : j < 5 := by have := (List.getElem?_eq_some_iff.1 hv).1; simpa [WCall.vals] using this
      have := hat j hj
      rw [← Go.Deep.add_add, this, hy]; exact hv
    have hys := list_ofw len key
    obtain ⟨ys, hyl, hy⟩ := hys
    refine ⟨some a, len, cap, ys, rfl, ⟨hyl, ?_, fun hn => ?_⟩, hl, by omega⟩
    · intro y hym
      obtain ⟨i, hi, rfl⟩ := List.getElem_of_mem hym
      exact (hy i hi).1
    · obtain ⟨b, o, spot⟩ := a
      have h00 := (hy 0 (by omega)).2 0 (.int .i64 (ys[0]'(by omega)).d) rfl
      have hspot : spot = none := by simpa [Addr.add] using World.cell?_spot h00
      subst hspot
      refine ⟨b, o, rfl, ?_, fun i hi j v hv => ?_⟩
      · have := block_lt_of_cell h00
        simpa [Addr.add] using this
      · have := (hy i hi).2 j v hv
        rwa [plain_add] at this
theorem WCalls.at_ {W W' : World} {A : Option Addr} {n : Nat} {ys : List WCall} (h : WCalls W A n ys) (hb : Below W.heap.size W W') {k : Nat} (hk : k < n) :
    ∃ b o y, A = some ⟨b, o, none⟩ ∧ b < W.heap.size ∧ y ∈ ys ∧ ys[k]? = some y ∧ y.good W ∧ W'.cell? ⟨b, o + k * 5, none⟩ = some (.int .i64 y.d) ∧ W'.cell? ⟨b, o + k * 5 + 1, none⟩ = some (.int .i64 y.s) ∧ W'.cell? ⟨b, o + k * 5 + 2, none⟩ = some (.int .i64 y.a) ∧ W'.cell? ⟨b, o + k * 5 + 3, none⟩ = some (.int .u32 (y.n : Int)) ∧ W'.cell? ⟨b, o + k * 5 + 4, none⟩ = some (.slice y.A y.m y.c) := by
  obtain ⟨hl, hg, hc⟩ := h
  obtain ⟨b, o, e, hbl, hcell⟩ := hc (by omega)
  have hk' : k < ys.length := by omega
  have key : ∀ j v, (ys[k]).vals[j]? = some v → W'.cell? ⟨b, o + (k * 5 + j), none⟩ = some v := fun j v hv => (hb.cell (p := ⟨b, o + (k * 5 + j), none⟩) hbl).trans (hcell k hk' j v hv)
  exact ⟨b, o, ys[k], e, hbl, List.getElem_mem hk', List.getElem?_eq_getElem hk', hg _ (List.getElem_mem hk'), key 0 _ rfl, key 1 _ rfl, key 2 _ rfl, key 3 _ rfl, key 4 _ rfl⟩
end Go.Proofs.YtoblapnnpjgpnaaGreatDoor
