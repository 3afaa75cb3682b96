/- The frame of every law of this seat: whatever is read, the call answers true and nothing that was there has changed. -/
import Derived.ProofKit
import Derived.SizedLaws
import Derived.Deep.Slices
import Derived.Test.YtmncpgfdpcckpaaGreatDoorRows
import Derived.Test.YtmncpgfdpcckpaaGreatDoorZAQN
namespace Go.Proofs.YtmncpgfdpcckpaaGreatDoor
open Go.ChangeShapes Go.WideShapes Go.ChangeAt Go.RowKit
theorem Tryz.own : ownKnob Tryz.prog.godebug = none := by kernel_rfl
theorem Tryz.laidOut : laidOutB Tryz.prog = true := by kernel_rfl
theorem Tryz.cells5 : Tryz.prog.cellsOf 5 = 1 := by kernel_rfl
theorem trodAll_below {H : Type} {enc : TypeId × Value → H} {P : Program} (hl : laidOutB P = true) {W W' : World} (hb : Below W.heap.size W W') :
  ∀ {ts : List TypeId} {vs : List Value} {ds : List (DataW H)} {ps : List MemPlace}, (ts.all fun t => P.readableRec t && decide (t < P.types.size)) = true →
   (∀ x ∈ ps, x.block < W.heap.size) → DataW.TrodAll enc P W 0 (fun _ => true) true ts vs ds ps → DataW.TrodAll enc P W' 0 (fun b => decide (b < W.heap.size)) true ts vs ds ps
 | [], [], [], _, _, _, h => h
 | t :: ts, v :: vs, d :: ds, ps, hr, hlt, h => by
  obtain ⟨p, q, h1, h2, e⟩ := h
  subst e
  simp only [List.all_cons, Bool.and_eq_true, decide_eq_true_eq] at hr
  exact ⟨p, q, Below.trod hl hr.1.1 hr.1.2 h1 hb (fun x hx => hlt x (by simp [hx])), trodAll_below hl hb hr.2 (fun x hx => hlt x (by simp [hx])) h2, rfl⟩
 | [], [], _ :: _, _, _, _, h => h.elim
 | [], _ :: _, _, _, _, _, h => by cases ‹List (DataW H)› <;> exact h.elim
 | _ :: _, [], _, _, _, _, h => by cases ‹List (DataW H)› <;> exact h.elim
 | _ :: _, _ :: _, [], _, _, _, h => h.elim
theorem trodAll_length {H : Type} {enc : TypeId × Value → H} {P : Program} {W : World} {base : Nat} {sp : Nat → Bool} {hd : Bool} : ∀ {ts : List TypeId} {vs : List Value} {ds : List (DataW H)} {ps : List MemPlace},
  DataW.TrodAll enc P W base sp hd ts vs ds ps → ds.length = ts.length
 | [], vs, ds, ps, h => by obtain ⟨_, rfl, _⟩ := trodAll_nil h; rfl
 | t :: ts, vs, ds, ps, h => by
  obtain ⟨v, vs', d, ds', p, q, _, rfl, _, _, h2⟩ := trodAll_cons h
  simp [trodAll_length h2]
end Go.Proofs.YtmncpgfdpcckpaaGreatDoor
namespace Go.Proofs.YtmncpgfdpcckpaaGreatDoor
open Go.ChangeShapes Go.WideShapes Go.ChangeAt Go.RowKit
theorem open_cbytes {H : Type} {enc : TypeId × Value → H} {P : Program} {W : World} {t e : TypeId} {fuel : Nat} {cs : List Value} {x : DataW H × List MemPlace}
  (ht : P.underlying t = some (.slice e)) (he : P.underlying e = some (.int .u8)) (hc : P.cellsOf e = 1) (hf : DataW.trod enc P W 0 (fun _ => true) true fuel t cs = some x) :
  ∃ (A : Option Addr) (n cap : Nat) (l : List UInt8), cs = [.slice A n cap] ∧ Row W W.heap.size A n (bv l) ∧ n ≤ cap ∧ cap ≤ 9223372036854775807 := by
 rcases open_ints ht he hc hf with ⟨hcs, hx⟩ | ⟨a, len, cap, zs, hcs, _, hl, hm, hz, hx, hcell, hwz⟩
 ·exact ⟨none, 0, 0, [], hcs, Row.nil _ _ _, Nat.le_refl _, by omega⟩
 ·unfold maxLen at hm
  simp at hz
  refine ⟨_, _, _, _, hcs, row_of_ints (by omega) hcell hwz ?_, hl, by omega⟩
  rcases Nat.eq_zero_or_pos len with h0 | h0
  ·exact .inr h0
  ·left
   have := block_lt_of_cell (hcell 0 (by omega))
   simpa [Addr.add] using this
end Go.Proofs.YtmncpgfdpcckpaaGreatDoor
namespace Go.Proofs.YtmncpgfdpcckpaaGreatDoor
open Go.ChangeShapes Go.WideShapes Go.ChangeAt Go.RowKit
theorem open_ci64 {H : Type} {enc : TypeId × Value → H} {P : Program} {W : World} {t : TypeId} {fuel : Nat} {cs : List Value} {x : DataW H × List MemPlace}
  (ht : P.underlying t = some (.int .i64)) (hf : DataW.trod enc P W 0 (fun _ => true) true fuel t cs = some x) : ∃ n : Int, cs = [.int .i64 n] ∧ -9223372036854775808 ≤ n ∧ n ≤ 9223372036854775807 := by
 obtain ⟨x, hx, _, wx⟩ := DataW.trod_int ht hf
 have hb : -9223372036854775808 ≤ x ∧ x ≤ 9223372036854775807 := by simpa [Lit.wf, IntKind.min, IntKind.max, IntKind.signed, IntKind.bits] using wx
 exact ⟨x, hx, hb.1, hb.2⟩
end Go.Proofs.YtmncpgfdpcckpaaGreatDoor
namespace Go.Proofs.YtmncpgfdpcckpaaGreatDoor
open Go.ChangeShapes Go.WideShapes Go.ChangeAt Go.RowKit
structure EEv where
 d : Int
 a : Int
 n : Int
 A : Option Addr
 m : Nat
 c : Nat
 l : List UInt8
def EEv.vals (x : EEv) : List Value := [.int .i64 x.d, .slice x.A x.m x.c, .int .i64 x.a, .int .i64 x.n]
def EEv.good (W : World) (x : EEv) : Prop :=
 Row W W.heap.size x.A x.m (bv x.l) ∧ x.m ≤ x.c ∧ x.c ≤ 9223372036854775807 ∧ (-9223372036854775808 ≤ x.d ∧ x.d ≤ 9223372036854775807) ∧ (-9223372036854775808 ≤ x.a ∧ x.a ≤ 9223372036854775807) ∧ (-9223372036854775808 ≤ x.n ∧ x.n ≤ 9223372036854775807)
theorem open_ecells {H : Type} {enc : TypeId × Value → H} {P : Program} {W : World} {t e : TypeId} {fuel : Nat} {cs : List Value} {x : DataW H × List MemPlace} {f0 f1 f2 f3 : Field}
  (ht : P.underlying t = some (.struct #[f0, f1, f2, f3])) (ho : f0.offset = 0 ∧ f1.offset = 1 ∧ f2.offset = 2 ∧ f3.offset = 3)
  (h0 : P.underlying f0.type = some (.int .i64)) (h1 : P.underlying f1.type = some (.slice e)) (h2 : P.underlying f2.type = some (.int .i64)) (h3 : P.underlying f3.type = some (.int .i64))
  (he : P.underlying e = some (.int .u8)) (hc : P.cellsOf e = 1) (hcs : P.cellsOf f0.type = 1 ∧ P.cellsOf f1.type = 1 ∧ P.cellsOf f2.type = 1 ∧ P.cellsOf f3.type = 1) (hct : P.cellsOf t = 4)
  (hf : DataW.trod enc P W 0 (fun _ => true) true fuel t cs = some x) : ∃ y : EEv, cs = y.vals ∧ y.good W := by
 obtain ⟨xs, m, _, _, hlen, hxl, hx⟩ := DataW.trod_struct ht hf
 rw [hct] at hlen
 match cs, hlen with
 | [c0, c1, c2, c3], _ =>
  have hxl4 : xs.length = 4 := hxl
  have g0 := hx 0 f0 rfl
  have g1 := hx 1 f1 rfl
  have g2 := hx 2 f2 rfl
  have g3 := hx 3 f3 rfl
  rw [ho.1, hcs.1, List.getElem?_eq_getElem (by omega)] at g0
  rw [ho.2.1, hcs.2.1, List.getElem?_eq_getElem (by omega)] at g1
  rw [ho.2.2.1, hcs.2.2.1, List.getElem?_eq_getElem (by omega)] at g2
  rw [ho.2.2.2, hcs.2.2.2, List.getElem?_eq_getElem (by omega)] at g3
  obtain ⟨d, hd, hdl⟩ := open_ci64 h0 g0
  obtain ⟨A, k, cap, l, hl, hrow, hk, hcap⟩ := open_cbytes h1 he hc g1
  obtain ⟨a, ha, hal⟩ := open_ci64 h2 g2
  obtain ⟨n, hn, hnl⟩ := open_ci64 h3 g3
  simp at hd ha hn hl
  subst hd ha hn hl
  exact ⟨⟨d, a, n, A, k, cap, l⟩, rfl, hrow, hk, hcap, hdl, hal, hnl⟩
theorem open_ev {H : Type} {enc : TypeId × Value → H} {P : Program} {W : World} {base : Nat} {t e : TypeId} {v : Value} {d : DataW H} {ps : List MemPlace} {f0 f1 f2 f3 : Field}
  (ht : P.underlying t = some (.struct #[f0, f1, f2, f3])) (ho : f0.offset = 0 ∧ f1.offset = 1 ∧ f2.offset = 2 ∧ f3.offset = 3)
  (h0 : P.underlying f0.type = some (.int .i64)) (h1 : P.underlying f1.type = some (.slice e)) (h2 : P.underlying f2.type = some (.int .i64)) (h3 : P.underlying f3.type = some (.int .i64))
  (he : P.underlying e = some (.int .u8)) (hc : P.cellsOf e = 1) (hcs : P.cellsOf f0.type = 1 ∧ P.cellsOf f1.type = 1 ∧ P.cellsOf f2.type = 1 ∧ P.cellsOf f3.type = 1) (hct : P.cellsOf t = 4)
  (hval : Value.okWide P W .any base t v) (h : DataW.Trod enc P W 0 (fun _ => true) true t v d ps) : ∃ y : EEv, v = .agg y.vals.toArray ∧ y.good W := by
 have hv := hval
 unfold Value.okWide at hv
 rw [ht] at hv
 obtain ⟨cs, rfl, hsz, _⟩ := hv
 obtain ⟨fuel, hf⟩ := h
 obtain ⟨y, hy, hg⟩ := open_ecells ht ho h0 h1 h2 h3 he hc hcs hct hf
 refine ⟨y, ?_, hg⟩
 have e1 : cs.toList = y.vals := hy
 rw [← e1]
end Go.Proofs.YtmncpgfdpcckpaaGreatDoor
