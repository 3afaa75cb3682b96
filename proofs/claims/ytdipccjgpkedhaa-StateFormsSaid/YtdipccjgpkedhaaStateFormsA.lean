/- a tail, as one text. -/
import Derived.Test.YtdipccjgpkedhaaRows
import Derived.Test.YtdipccjgpkedhaaBase
import Derived.ProofKit
import Derived.SizedLaws
import Derived.Test.YtdipccjgpkedhaaRdSlot
import Derived.Test.YtdipccjgpkedhaaStBytes
import Derived.Test.YtdipccjgpkedhaaFirst
import Derived.Test.YtdipccjgpkedhaaStEq
import Derived.Test.YtdipccjgpkedhaaRSlot1
import Derived.Test.YtdipccjgpkedhaaRPsW
import Derived.Test.YtdipccjgpkedhaaRAdm
import Derived.Test.YtdipccjgpkedhaaRStB
namespace Go.Proofs.Ytdipccjgpkedhaa
section
open Go.ChangeShapes Go.WideShapes Go.ChangeAt Go.RowKit

theorem Try.own : ownKnob Try.prog.godebug = none := by kernel_rfl
theorem Try.laidOut : laidOutB Try.prog = true := by kernel_rfl
theorem Try.cells5 : Try.prog.cellsOf 5 = 1 := by kernel_rfl

theorem trodAll_below {H : Type} {enc : TypeId × Value → H} {P : Program} (hl : laidOutB P = true) {W W' : World} (hb : Below W.heap.size W W') :
    ∀ {ts : List TypeId} {vs : List Value} {ds : List (DataW H)} {ps : List MemPlace}, (ts.all fun t => P.readableRec t && decide (t < P.types.size)) = true →
      (∀ x ∈ ps, x.block < W.heap.size) → DataW.TrodAll enc P W 0 (fun _ => true) true ts vs ds ps → DataW.TrodAll enc P W' 0 (fun b => decide (b < W.heap.size)) true ts vs ds ps
  | [], [], [], _, _, _, h => h
  | t :: ts, v :: vs, d :: ds, ps, hr, hlt, h => by
    obtain ⟨p, q, h1, h2, e⟩ := h
    subst e
    simp only [List.all_cons, Bool.and_eq_true, decide_eq_true_eq] at hr
    exact ⟨p, q, Below.trod hl hr.1.1 hr.1.2 h1 hb (fun x hx => hlt x (by simp [hx])), trodAll_below hl hb hr.2 (fun x hx => hlt x (by simp [hx])) h2, rfl⟩
  | [], [], _ :: _, _, _, _, h => h.elim
  | [], _ :: _, _, _, _, _, h => by cases ‹List (DataW H)› <;> exact h.elim
  | _ :: _, [], _, _, _, _, h => by cases ‹List (DataW H)› <;> exact h.elim
  | _ :: _, _ :: _, [], _, _, _, h => h.elim

theorem trodAll_length {H : Type} {enc : TypeId × Value → H} {P : Program} {W : World} {base : Nat} {sp : Nat → Bool} {hd : Bool} : ∀ {ts : List TypeId} {vs : List Value} {ds : List (DataW H)} {ps : List MemPlace},
    DataW.TrodAll enc P W base sp hd ts vs ds ps → ds.length = ts.length
  | [], vs, ds, ps, h => by obtain ⟨_, rfl, _⟩ := trodAll_nil h; rfl
  | t :: ts, vs, ds, ps, h => by
    obtain ⟨v, vs', d, ds', p, q, _, rfl, _, _, h2⟩ := trodAll_cons h
    simp [trodAll_length h2]

theorem law_lift {C : Checked} {os : Os} {f : FuncId} {fn : Func} {s : ChangeSpec} {conds : List PathCond} {H : Type} {enc : TypeId × Value → H} {tb : TypeId}
    (own : ownKnob C.prog.godebug = none) (started : os.Started) (noInit : C.prog.inits.idxOf? f = none) (hfn : C.prog.funcs[f]? = some fn)
    (witness : ∃ (w : World) (tape : Tape) (i : Input), w.os = os ∧ (w.forCall tape i).Shaped C.prog ∧ i.vars = [] ∧ Input.okWide C.prog (w.forCall tape i) .any w.heap.size f i ∧
      s.pre6 enc C.prog fn conds false (w.forCall tape i).memory i.args ∧ ({} : Assume).holds C.prog (lone (Frame.enter C.prog f i.args .normal) [] (w.forCall tape i)))
    (hl : laidOutB C.prog = true) (hr : (fn.params.toList.all fun t => C.prog.readableRec t && decide (t < C.prog.types.size)) = true)
    (hv : s.vars = []) (hres : fn.resultTypes = #[tb]) (htb : C.prog.underlying tb = some .bool)
    (hspec : ∀ ds : List (DataW H), ds.length = fn.params.toList.length → s.fn H ds = { results := [.lit (.bool true)], args := ds })
    (walk : ∀ (W : World) (base : Nat) (args : Array Value) (ds : List (DataW H)) (p : List MemPlace),
      (∀ (j : Nat) t v, fn.params[j]? = some t → args[j]? = some v → Value.okWide C.prog W .any base t v) →
      DataW.TrodAll enc C.prog W 0 (fun _ => true) true fn.params.toList args.toList ds p → (∀ x ∈ p, x.block < W.heap.size) →
      conds.all (PathCond.test C.prog ⟨fn.params.toList, ds, s.plain.varTypes C.prog, []⟩) = true →
      (DataW.weightsEach C.prog fn.params.toList ds).all (· ≤ reachBytes) = true →
      Calls C.prog f args W fun e W' => e = .returned (.bool true) ∧ Below W.heap.size W W') :
    ReturnsInHanded {} C os f .any (s.pre6 enc C.prog fn conds false) (s.post enc C.prog fn false true false false) := by
  refine returnsInHanded_of_change_sized own started noInit hfn witness ?_
  intro W base args ds gs before hval hW hcnd hsz _
  have hW' := hW
  obtain ⟨p, q, hA, hV, rfl, hfz, hnd⟩ := hW
  rw [hv] at hV
  obtain ⟨rfl, rfl⟩ := trodVars_none hV
  have hlt : ∀ x ∈ p, x.block < W.heap.size := fun x hx => hW'.lt x (by simp [hx])
  have hvt : s.plain.varTypes C.prog = [] := by simp [ChangeSpec.plain, DataSpec.varTypes, hv]
  rw [List.append_nil, hvt, List.append_nil] at hsz
  refine (walk W base args ds p hval hA hlt hcnd hsz).mono fun e W' ⟨he, hb⟩ => ⟨_, he, ?_⟩
  have hs : s.fn H (ds ++ []) = { results := [.lit (.bool true)], args := ds } := by rw [List.append_nil]; exact hspec ds (trodAll_length hA)
  refine ⟨ds, [], p ++ [], [], p, [], hW', ?_, ?_, ?_, hb.frame _, fun h => by cases h⟩
  · rw [hs, hres]
    exact trodAll_mk1 (shut_bool htb _)
  · rw [hs]
    exact trodAll_below hl hb hr hlt hA
  · rw [hs, hv]
    rfl

theorem weights_cons {H : Type} {P : Program} {t : TypeId} {ts : List TypeId} {d : DataW H} {r : List (DataW H)} (h : (DataW.weightsEach P (t :: ts) (d :: r)).all (· ≤ reachBytes) = true) :
    (d.weights P t).all (· ≤ reachBytes) = true ∧ (DataW.weightsEach P ts r).all (· ≤ reachBytes) = true := by
  simpa [DataW.weightsEach, List.all_append] using h
/-- a byte slice that came in, whatever it is -/
theorem open_rbytes {H : Type} {enc : TypeId × Value → H} {P : Program} {W : World} {base : Nat} {t e : TypeId} {v : Value} {d : DataW H} {ps : List MemPlace}
    (ht : P.underlying t = some (.slice e)) (he : P.underlying e = some (.int .u8)) (hc : P.cellsOf e = 1) (hval : Value.okWide P W .any base t v) (h : DataW.Trod enc P W 0 (fun _ => true) true t v d ps) :
    ∃ (A : Option Addr) (n cap : Nat) (l : List UInt8), v = .slice A n cap ∧ Row W W.heap.size A n (bv l) ∧ n ≤ cap ∧ cap ≤ 9223372036854775807 ∧ (P.bytesOf e = 1 → (d.weights P t).all (· ≤ reachBytes) = true → n ≤ 140737488351232) := by
  obtain ⟨a0, len, cap, rfl⟩ := okWide_slice ht hval
  obtain ⟨fuel, hf⟩ := h
  rcases open_ints ht he hc hf with ⟨hcs, hx⟩ | ⟨a, len', cap', zs, hcs, _, hl, hm, hz, hx, hcell, hwz⟩
  · simp [Value.cells] at hcs
    obtain ⟨rfl, rfl, rfl⟩ := hcs
    exact ⟨none, 0, 0, [], rfl, Row.nil _ _ _, Nat.le_refl _, by omega, fun _ _ => by omega⟩
  · simp [Value.cells] at hcs
    obtain ⟨rfl, rfl, rfl⟩ := hcs
    unfold maxLen at hm
    simp at hz
    refine ⟨_, _, _, _, rfl, row_of_ints (by omega) hcell hwz ?_, hl, by omega, fun hb hw => ?_⟩
    rotate_left
    · injection hx with hx _
      subst hx
      simp only [DataW.weights, ht, hb, List.all_cons, Bool.and_eq_true, decide_eq_true_eq] at hw
      have := hw.1
      simp [lits, reachBytes] at this
      omega
    rcases Nat.eq_zero_or_pos len with h0 | h0
    · exact .inr h0
    · left
      have := block_lt_of_cell (hcell 0 (by omega))
      simpa [Addr.add] using this
theorem open_bytes {H : Type} {enc : TypeId × Value → H} {P : Program} {W : World} {base : Nat} {t e : TypeId} {v : Value} {d : DataW H} {ps : List MemPlace}
    (ht : P.underlying t = some (.slice e)) (he : P.underlying e = some (.int .u8)) (hc : P.cellsOf e = 1) (hval : Value.okWide P W .any base t v) (h : DataW.Trod enc P W 0 (fun _ => true) true t v d ps) :
    ∃ (A : Option Addr) (n cap : Nat) (l : List UInt8), v = .slice A n cap ∧ Row W W.heap.size A n (bv l) ∧ n ≤ cap ∧ cap ≤ 9223372036854775807 := by
  obtain ⟨A, n, cap, l, h1, h2, h3, h4, _⟩ := open_rbytes ht he hc hval h
  exact ⟨A, n, cap, l, h1, h2, h3, h4⟩
/-- a byte, a number of 32 bits, a number of 64 bits that came in -/
theorem open_byte {H : Type} {enc : TypeId × Value → H} {P : Program} {W : World} {base : Nat} {t : TypeId} {v : Value} {d : DataW H} {ps : List MemPlace}
    (ht : P.underlying t = some (.int .u8)) (hval : Value.okWide P W .any base t v) (h : DataW.Trod enc P W 0 (fun _ => true) true t v d ps) : ∃ x : UInt8, v = .int .u8 (x.toNat : Int) := by
  obtain ⟨x, rfl, _, _, wx⟩ := open_int ht hval h
  have hb : 0 ≤ x ∧ x ≤ 255 := by simpa [Lit.wf, IntKind.min, IntKind.max, IntKind.signed, IntKind.bits] using wx
  refine ⟨UInt8.ofNat x.toNat, ?_⟩
  congr 1
  simp
  omega
theorem open_u32 {H : Type} {enc : TypeId × Value → H} {P : Program} {W : World} {base : Nat} {t : TypeId} {v : Value} {d : DataW H} {ps : List MemPlace}
    (ht : P.underlying t = some (.int .u32)) (hval : Value.okWide P W .any base t v) (h : DataW.Trod enc P W 0 (fun _ => true) true t v d ps) : ∃ x : Nat, v = .int .u32 (x : Int) ∧ x < 2 ^ 32 := by
  obtain ⟨x, rfl, _, _, wx⟩ := open_int ht hval h
  have hb : 0 ≤ x ∧ x ≤ 4294967295 := by simpa [Lit.wf, IntKind.min, IntKind.max, IntKind.signed, IntKind.bits] using wx
  exact ⟨x.toNat, by congr 1; omega, by omega⟩
theorem open_i64 {H : Type} {enc : TypeId × Value → H} {P : Program} {W : World} {base : Nat} {t : TypeId} {v : Value} {d : DataW H} {ps : List MemPlace}
    (ht : P.underlying t = some (.int .i64)) (hval : Value.okWide P W .any base t v) (h : DataW.Trod enc P W 0 (fun _ => true) true t v d ps) : ∃ x : Int, v = .int .i64 x ∧ -9223372036854775808 ≤ x ∧ x ≤ 9223372036854775807 := by
  obtain ⟨x, rfl, _, _, wx⟩ := open_int ht hval h
  have hb : -9223372036854775808 ≤ x ∧ x ≤ 9223372036854775807 := by simpa [Lit.wf, IntKind.min, IntKind.max, IntKind.signed, IntKind.bits] using wx
  exact ⟨x, rfl, hb.1, hb.2⟩
/-- an array of bytes that came in, by value -/
theorem open_arr {H : Type} {enc : TypeId × Value → H} {P : Program} {W : World} {base k : Nat} {t e : TypeId} {v : Value} {d : DataW H} {ps : List MemPlace}
    (ht : P.underlying t = some (.array k e)) (he : P.underlying e = some (.int .u8)) (hc : P.cellsOf e = 1) (hct : P.cellsOf t = k) (hval : Value.okWide P W .any base t v) (h : DataW.Trod enc P W 0 (fun _ => true) true t v d ps) :
    ∃ bs : List UInt8, bs.length = k ∧ v = .agg (bv bs).toArray := by
  have hv := hval
  unfold Value.okWide at hv
  rw [ht] at hv
  obtain ⟨cs, rfl, hsz, _⟩ := hv
  rw [hct] at hsz
  obtain ⟨fuel, hf⟩ := h
  obtain ⟨xs, m, _, _, _, hxl, hx⟩ := DataW.trod_array ht hf
  have hcell : ∀ i (hi : i < k), ∃ b : UInt8, cs[i]? = some (.int .u8 (b.toNat : Int)) := by
    intro i hi
    have h1 := hx i hi
    rw [hc, Nat.mul_one] at h1
    have e1 : (Value.agg cs).cells.toList = cs.toList := rfl
    rw [e1, List.drop_eq_getElem_cons (by simp; omega), List.take_succ_cons, List.take_zero] at h1
    have h2 : xs[i]? = some xs[i] := List.getElem?_eq_getElem (by omega)
    rw [h2] at h1
    obtain ⟨n, hn, _, hw⟩ := DataW.trod_int he h1
    have hb : 0 ≤ n ∧ n ≤ 255 := by simpa [Lit.wf, IntKind.min, IntKind.max, IntKind.signed, IntKind.bits] using hw
    refine ⟨UInt8.ofNat n.toNat, ?_⟩
    rw [Array.getElem?_eq_getElem (by omega)]
    simp at hn
    rw [hn]
    congr 2
    simp
    omega
  refine ⟨cs.toList.map fun v => match v with | .int _ n => UInt8.ofNat n.toNat | _ => 0, by simp [hsz], ?_⟩
  congr 1
  apply Array.ext
  · simp [bv]
  · intro i h1 h2
    obtain ⟨b, hb⟩ := hcell i (by omega)
    rw [Array.getElem?_eq_getElem h1] at hb
    injection hb with hb
    simp [bv, hb]
end
section
open Go.ChangeShapes Go.WideShapes Go.ChangeAt Go.RowKit
theorem open_cbytes {H : Type} {enc : TypeId × Value → H} {P : Program} {W : World} {t e : TypeId} {fuel : Nat} {cs : List Value} {x : DataW H × List MemPlace}
    (ht : P.underlying t = some (.slice e)) (he : P.underlying e = some (.int .u8)) (hc : P.cellsOf e = 1) (hf : DataW.trod enc P W 0 (fun _ => true) true fuel t cs = some x) :
    ∃ (A : Option Addr) (n cap : Nat) (l : List UInt8), cs = [.slice A n cap] ∧ Row W W.heap.size A n (bv l) ∧ n ≤ cap ∧ cap ≤ 9223372036854775807 := by
  rcases open_ints ht he hc hf with ⟨hcs, hx⟩ | ⟨a, len, cap, zs, hcs, _, hl, hm, hz, hx, hcell, hwz⟩
  · exact ⟨none, 0, 0, [], hcs, Row.nil _ _ _, Nat.le_refl _, by omega⟩
  · unfold maxLen at hm
    simp at hz
    refine ⟨_, _, _, _, hcs, row_of_ints (by omega) hcell hwz ?_, hl, by omega⟩
    rcases Nat.eq_zero_or_pos len with h0 | h0
    · exact .inr h0
    · left
      have := block_lt_of_cell (hcell 0 (by omega))
      simpa [Addr.add] using this
theorem open_cu32 {H : Type} {enc : TypeId × Value → H} {P : Program} {W : World} {t : TypeId} {fuel : Nat} {cs : List Value} {x : DataW H × List MemPlace}
    (ht : P.underlying t = some (.int .u32)) (hf : DataW.trod enc P W 0 (fun _ => true) true fuel t cs = some x) : ∃ n : Nat, cs = [.int .u32 (n : Int)] ∧ n < 4294967296 := by
  obtain ⟨x, hx, _, wx⟩ := DataW.trod_int ht hf
  have hb : 0 ≤ x ∧ x ≤ 4294967295 := by simpa [Lit.wf, IntKind.min, IntKind.max, IntKind.signed, IntKind.bits] using wx
  exact ⟨x.toNat, by rw [hx]; congr 2; omega, by omega⟩
theorem open_sym {H : Type} {enc : TypeId × Value → H} {P : Program} {W : World} {base : Nat} {t e : TypeId} {v : Value} {d : DataW H} {ps : List MemPlace} {f0 f1 f2 : Field}
    (ht : P.underlying t = some (.struct #[f0, f1, f2])) (ho : f0.offset = 0 ∧ f1.offset = 1 ∧ f2.offset = 2) (h0 : P.underlying f0.type = some (.int .u32)) (h1 : P.underlying f1.type = some (.int .u32)) (h2 : P.underlying f2.type = some (.slice e))
    (he : P.underlying e = some (.int .u8)) (hc : P.cellsOf e = 1) (hcs : P.cellsOf f0.type = 1 ∧ P.cellsOf f1.type = 1 ∧ P.cellsOf f2.type = 1) (hct : P.cellsOf t = 3)
    (hval : Value.okWide P W .any base t v) (h : DataW.Trod enc P W 0 (fun _ => true) true t v d ps) :
    ∃ (s id : Nat) (A : Option Addr) (n cap : Nat) (l : List UInt8), v = .agg #[.int .u32 (s : Int), .int .u32 (id : Int), .slice A n cap] ∧ s < 4294967296 ∧ id < 4294967296 ∧ Row W W.heap.size A n (bv l) ∧ n ≤ cap ∧ cap ≤ 9223372036854775807 := by
  have hv := hval
  unfold Value.okWide at hv
  rw [ht] at hv
  obtain ⟨cs, rfl, hsz, _⟩ := hv
  rw [hct] at hsz
  obtain ⟨fuel, hf⟩ := h
  obtain ⟨xs, m, _, _, _, hxl, hx⟩ := DataW.trod_struct ht hf
  obtain ⟨c0, c1, c2, rfl⟩ : ∃ c0 c1 c2, cs = #[c0, c1, c2] := by
    match cs, hsz with
    | ⟨[c0, c1, c2]⟩, _ => exact ⟨c0, c1, c2, rfl⟩
  have e1 : (Value.agg #[c0, c1, c2]).cells.toList = [c0, c1, c2] := rfl
  have hxl3 : xs.length = 3 := hxl
  have g0 := hx 0 f0 rfl
  have g1 := hx 1 f1 rfl
  have g2 := hx 2 f2 rfl
  rw [e1, ho.1, hcs.1, List.getElem?_eq_getElem (by omega)] at g0
  rw [e1, ho.2.1, hcs.2.1, List.getElem?_eq_getElem (by omega)] at g1
  rw [e1, ho.2.2, hcs.2.2, List.getElem?_eq_getElem (by omega)] at g2
  obtain ⟨s, hs, hsl⟩ := open_cu32 h0 g0
  obtain ⟨id, hi, hil⟩ := open_cu32 h1 g1
  obtain ⟨A, n, cap, l, hd, hrow, hn, hcap⟩ := open_cbytes h2 he hc g2
  simp at hs hi hd
  subst hs hi hd
  exact ⟨s, id, A, n, cap, l, rfl, hsl, hil, hrow, hn, hcap⟩
end
section
open Go.ChangeShapes Go.WideShapes Go.ChangeAt Go.RowKit
theorem open_ci64 {H : Type} {enc : TypeId × Value → H} {P : Program} {W : World} {t : TypeId} {fuel : Nat} {cs : List Value} {x : DataW H × List MemPlace}
    (ht : P.underlying t = some (.int .i64)) (hf : DataW.trod enc P W 0 (fun _ => true) true fuel t cs = some x) : ∃ n : Int, cs = [.int .i64 n] ∧ -9223372036854775808 ≤ n ∧ n ≤ 9223372036854775807 := by
  obtain ⟨x, hx, _, wx⟩ := DataW.trod_int ht hf
  have hb : -9223372036854775808 ≤ x ∧ x ≤ 9223372036854775807 := by simpa [Lit.wf, IntKind.min, IntKind.max, IntKind.signed, IntKind.bits] using wx
  exact ⟨x, hx, hb.1, hb.2⟩
theorem open_call {H : Type} {enc : TypeId × Value → H} {P : Program} {W : World} {base : Nat} {t : TypeId} {v : Value} {d : DataW H} {ps : List MemPlace} {f1 f2 f3 : Field}
    (ht : P.underlying t = some (.struct #[f1, f2, f3])) (ho : f1.offset = 0 ∧ f2.offset = 1 ∧ f3.offset = 2) (h1 : P.underlying f1.type = some (.int .i64)) (h2 : P.underlying f2.type = some (.int .i64)) (h3 : P.underlying f3.type = some (.int .i64))
    (hcs : P.cellsOf f1.type = 1 ∧ P.cellsOf f2.type = 1 ∧ P.cellsOf f3.type = 1) (hct : P.cellsOf t = 3)
    (hval : Value.okWide P W .any base t v) (h : DataW.Trod enc P W 0 (fun _ => true) true t v d ps) :
    ∃ (K L Z : Int), v = .agg #[.int .i64 K, .int .i64 L, .int .i64 Z] := by
  have hv := hval
  unfold Value.okWide at hv
  rw [ht] at hv
  obtain ⟨cs, rfl, hsz, _⟩ := hv
  rw [hct] at hsz
  obtain ⟨fuel, hf⟩ := h
  obtain ⟨xs, m, _, _, _, hxl, hx⟩ := DataW.trod_struct ht hf
  obtain ⟨c1, c2, c3, rfl⟩ : ∃ c1 c2 c3, cs = #[c1, c2, c3] := by
    match cs, hsz with
    | ⟨[c1, c2, c3]⟩, _ => exact ⟨c1, c2, c3, rfl⟩
  have e1 : (Value.agg #[c1, c2, c3]).cells.toList = [c1, c2, c3] := rfl
  have hxl4 : xs.length = 3 := hxl
  have g1 := hx 0 f1 rfl
  have g2 := hx 1 f2 rfl
  have g3 := hx 2 f3 rfl
  rw [e1, ho.1, hcs.1, List.getElem?_eq_getElem (by omega)] at g1
  rw [e1, ho.2.1, hcs.2.1, List.getElem?_eq_getElem (by omega)] at g2
  rw [e1, ho.2.2, hcs.2.2, List.getElem?_eq_getElem (by omega)] at g3
  obtain ⟨K, hK, hKl⟩ := open_ci64 h1 g1
  obtain ⟨L, hL, hLl⟩ := open_ci64 h2 g2
  obtain ⟨Z, hZ, hZl⟩ := open_ci64 h3 g3
  simp at hK hL hZ
  subst hK hL hZ
  exact ⟨K, L, Z, rfl⟩
end
section
open Go.ChangeShapes Go.WideShapes Go.ChangeAt Go.RowKit
def I64 (x : Int) : Prop := -9223372036854775808 ≤ x ∧ x ≤ 9223372036854775807
/-- a byte slice that came in -/
def InRow (W : World) (A : Option Addr) (n c : Nat) (l : List UInt8) : Prop := Row W W.heap.size A n (bv l) ∧ n ≤ c ∧ c ≤ 9223372036854775807
theorem open_mancells {H : Type} {enc : TypeId × Value → H} {P : Program} {W : World} {t e : TypeId} {fuel : Nat} {cs : List Value} {x : DataW H × List MemPlace} {f0 f1 f2 f3 f4 f5 : Field}
    (ht : P.underlying t = some (.struct #[f0, f1, f2, f3, f4, f5])) (ho : f0.offset = 0 ∧ f1.offset = 1 ∧ f2.offset = 2 ∧ f3.offset = 3 ∧ f4.offset = 4 ∧ f5.offset = 5)
    (h0 : P.underlying f0.type = some (.int .u32)) (h1 : P.underlying f1.type = some (.int .u32)) (h2 : P.underlying f2.type = some (.int .i64)) (h3 : P.underlying f3.type = some (.int .i64)) (h4 : P.underlying f4.type = some (.int .i64)) (h5 : P.underlying f5.type = some (.slice e))
    (he : P.underlying e = some (.int .u8)) (hc : P.cellsOf e = 1) (hcs : P.cellsOf f0.type = 1 ∧ P.cellsOf f1.type = 1 ∧ P.cellsOf f2.type = 1 ∧ P.cellsOf f3.type = 1 ∧ P.cellsOf f4.type = 1 ∧ P.cellsOf f5.type = 1) (hct : P.cellsOf t = 6)
    (hf : DataW.trod enc P W 0 (fun _ => true) true fuel t cs = some x) :
    ∃ (s v : Nat) (l z p : Int) (A : Option Addr) (n c : Nat) (h : List UInt8), cs = [.int .u32 (s : Int), .int .u32 (v : Int), .int .i64 l, .int .i64 z, .int .i64 p, .slice A n c] ∧ s < 4294967296 ∧ v < 4294967296 ∧ I64 l ∧ I64 z ∧ I64 p ∧ InRow W A n c h := by
  obtain ⟨xs, m, _, _, hlen, hxl, hx⟩ := DataW.trod_struct ht hf
  rw [hct] at hlen
  match cs, hlen with
  | [c0, c1, c2, c3, c4, c5], _ =>
    have hxl4 : xs.length = 6 := hxl
    have g0 := hx 0 f0 rfl
    have g1 := hx 1 f1 rfl
    have g2 := hx 2 f2 rfl
    have g3 := hx 3 f3 rfl
    have g4 := hx 4 f4 rfl
    have g5 := hx 5 f5 rfl
    rw [ho.1, hcs.1, List.getElem?_eq_getElem (by omega)] at g0
    rw [ho.2.1, hcs.2.1, List.getElem?_eq_getElem (by omega)] at g1
    rw [ho.2.2.1, hcs.2.2.1, List.getElem?_eq_getElem (by omega)] at g2
    rw [ho.2.2.2.1, hcs.2.2.2.1, List.getElem?_eq_getElem (by omega)] at g3
    rw [ho.2.2.2.2.1, hcs.2.2.2.2.1, List.getElem?_eq_getElem (by omega)] at g4
    rw [ho.2.2.2.2.2, hcs.2.2.2.2.2, List.getElem?_eq_getElem (by omega)] at g5
    obtain ⟨s, hs, hsl⟩ := open_cu32 h0 g0
    obtain ⟨v, hv, hvl⟩ := open_cu32 h1 g1
    obtain ⟨l, hl, hll⟩ := open_ci64 h2 g2
    obtain ⟨z, hz, hzl⟩ := open_ci64 h3 g3
    obtain ⟨p, hp, hpl⟩ := open_ci64 h4 g4
    obtain ⟨A, k, cap, h, hh, hrow, hk, hcap⟩ := open_cbytes h5 he hc g5
    simp at hs hv hl hz hp hh
    subst hs hv hl hz hp hh
    exact ⟨s, v, l, z, p, A, k, cap, h, rfl, hsl, hvl, hll, hzl, hpl, hrow, hk, hcap⟩
theorem open_slotcells {H : Type} {enc : TypeId × Value → H} {P : Program} {W : World} {t e : TypeId} {fuel : Nat} {cs : List Value} {x : DataW H × List MemPlace} {f0 f1 f2 : Field}
    (ht : P.underlying t = some (.struct #[f0, f1, f2])) (ho : f0.offset = 0 ∧ f1.offset = 1 ∧ f2.offset = 2)
    (h0 : P.underlying f0.type = some (.int .u32)) (h1 : P.underlying f1.type = some (.int .i64)) (h2 : P.underlying f2.type = some (.slice e))
    (he : P.underlying e = some (.int .u8)) (hc : P.cellsOf e = 1) (hcs : P.cellsOf f0.type = 1 ∧ P.cellsOf f1.type = 1 ∧ P.cellsOf f2.type = 1) (hct : P.cellsOf t = 3)
    (hf : DataW.trod enc P W 0 (fun _ => true) true fuel t cs = some x) :
    ∃ (v : Nat) (l : Int) (A : Option Addr) (n c : Nat) (h : List UInt8), cs = [.int .u32 (v : Int), .int .i64 l, .slice A n c] ∧ v < 4294967296 ∧ I64 l ∧ InRow W A n c h := by
  obtain ⟨xs, m, _, _, hlen, hxl, hx⟩ := DataW.trod_struct ht hf
  rw [hct] at hlen
  match cs, hlen with
  | [c0, c1, c2], _ =>
    have hxl4 : xs.length = 3 := hxl
    have g0 := hx 0 f0 rfl
    have g1 := hx 1 f1 rfl
    have g2 := hx 2 f2 rfl
    rw [ho.1, hcs.1, List.getElem?_eq_getElem (by omega)] at g0
    rw [ho.2.1, hcs.2.1, List.getElem?_eq_getElem (by omega)] at g1
    rw [ho.2.2, hcs.2.2, List.getElem?_eq_getElem (by omega)] at g2
    obtain ⟨v, hv, hvl⟩ := open_cu32 h0 g0
    obtain ⟨l, hl, hll⟩ := open_ci64 h1 g1
    obtain ⟨A, k, cap, h, hh, hrow, hk, hcap⟩ := open_cbytes h2 he hc g2
    simp at hv hl hh
    subst hv hl hh
    exact ⟨v, l, A, k, cap, h, rfl, hvl, hll, hrow, hk, hcap⟩
section
variable {H : Type} {enc : TypeId × Value → H} {W : World} {base : Nat} {v : Value} {d : DataW H} {ps : List MemPlace}
theorem open_slot17 {fuel : Nat} {cs : List Value} {x : DataW H × List MemPlace} (hf : DataW.trod enc Try.prog W 0 (fun _ => true) true fuel 25 cs = some x) :
    ∃ (v : Nat) (l : Int) (A : Option Addr) (n c : Nat) (h : List UInt8), cs = [.int .u32 (v : Int), .int .i64 l, .slice A n c] ∧ v < 4294967296 ∧ I64 l ∧ InRow W A n c h :=
  open_slotcells Try.underlying25 ⟨rfl, rfl, rfl⟩ Try.underlying22 Try.underlying3 Try.underlying23 Try.underlying5 Try.cells5 ⟨by kernel_rfl, by kernel_rfl, by kernel_rfl⟩ (by kernel_rfl) hf
theorem open_man6 {fuel : Nat} {cs : List Value} {x : DataW H × List MemPlace} (hf : DataW.trod enc Try.prog W 0 (fun _ => true) true fuel 28 cs = some x) :
    ∃ (s v : Nat) (l z p : Int) (A : Option Addr) (n c : Nat) (h : List UInt8), cs = [.int .u32 (s : Int), .int .u32 (v : Int), .int .i64 l, .int .i64 z, .int .i64 p, .slice A n c] ∧ s < 4294967296 ∧ v < 4294967296 ∧ I64 l ∧ I64 z ∧ I64 p ∧ InRow W A n c h :=
  open_mancells Try.underlying28 ⟨rfl, rfl, rfl, rfl, rfl, rfl⟩ Try.underlying22 Try.underlying22 Try.underlying3 Try.underlying3 Try.underlying3 Try.underlying23 Try.underlying5 Try.cells5 ⟨by kernel_rfl, by kernel_rfl, by kernel_rfl, by kernel_rfl, by kernel_rfl, by kernel_rfl⟩ (by kernel_rfl) hf
theorem open_man (hval : Value.okWide Try.prog W .any base 28 v) (h : DataW.Trod enc Try.prog W 0 (fun _ => true) true 28 v d ps) :
    ∃ (s u : Nat) (l z p : Int) (A : Option Addr) (n c : Nat) (h : List UInt8), v = .agg #[.int .u32 (s : Int), .int .u32 (u : Int), .int .i64 l, .int .i64 z, .int .i64 p, .slice A n c] ∧ s < 4294967296 ∧ u < 4294967296 ∧ I64 l ∧ I64 z ∧ I64 p ∧ InRow W A n c h := by
  have hv := hval
  unfold Value.okWide at hv
  rw [Try.underlying28] at hv
  obtain ⟨cs, rfl, hsz, _⟩ := hv
  obtain ⟨fuel, hf⟩ := h
  obtain ⟨s, u, l, z, p, A, n, c, hh, hy, hg⟩ := open_man6 hf
  refine ⟨s, u, l, z, p, A, n, c, hh, ?_, hg⟩
  have e1 : cs.toList = _ := hy
  rw [← Array.toArray_toList (xs := cs), e1]
theorem open_slots6 {fuel : Nat} {cs : List Value} {x : DataW H × List MemPlace} (hf : DataW.trod enc Try.prog W 0 (fun _ => true) true fuel 26 cs = some x) :
    ∃ (v0 : Nat) (l0 : Int) (A0 : Option Addr) (n0 c0 : Nat) (h0 : List UInt8) (v1 : Nat) (l1 : Int) (A1 : Option Addr) (n1 c1 : Nat) (h1 : List UInt8),
      cs = [.int .u32 (v0 : Int), .int .i64 l0, .slice A0 n0 c0, .int .u32 (v1 : Int), .int .i64 l1, .slice A1 n1 c1] ∧ v0 < 4294967296 ∧ I64 l0 ∧ InRow W A0 n0 c0 h0 ∧ v1 < 4294967296 ∧ I64 l1 ∧ InRow W A1 n1 c1 h1 := by
  obtain ⟨xs, m, _, _, hlen, hxl, hx⟩ := DataW.trod_array Try.underlying26 hf
  have hct : Try.prog.cellsOf 26 = 6 := by kernel_rfl
  have hcs : Try.prog.cellsOf 25 = 3 := by kernel_rfl
  rw [hct] at hlen
  match cs, hlen with
  | [a0, a1, a2, a3, a4, a5], _ =>
    have g0 := hx 0 (by omega)
    have g1 := hx 1 (by omega)
    rw [hcs, List.getElem?_eq_getElem (by omega)] at g0
    rw [hcs, List.getElem?_eq_getElem (by omega)] at g1
    obtain ⟨v0, l0, A0, n0, c0, h0, e0, b0, i0, r0⟩ := open_slot17 g0
    obtain ⟨v1, l1, A1, n1, c1, h1, e1, b1, i1, r1⟩ := open_slot17 g1
    simp at e0 e1
    obtain ⟨rfl, rfl, rfl⟩ := e0
    obtain ⟨rfl, rfl, rfl⟩ := e1
    exact ⟨v0, l0, A0, n0, c0, h0, v1, l1, A1, n1, c1, h1, rfl, b0, i0, r0, b1, i1, r1⟩
theorem open_state (hval : Value.okWide Try.prog W .any base 30 v) (h : DataW.Trod enc Try.prog W 0 (fun _ => true) true 30 v d ps) :
    ∃ (act trial : Int) (flo gen v0 : Nat) (l0 : Int) (A0 : Option Addr) (n0 c0 : Nat) (h0 : List UInt8) (v1 : Nat) (l1 : Int) (A1 : Option Addr) (n1 c1 : Nat) (h1 : List UInt8) (on : Bool) (s u : Nat) (l z p : Int) (A : Option Addr) (n c : Nat) (h : List UInt8),
      v = .agg #[.int .i64 act, .int .i64 trial, .int .u32 (flo : Int), .int .u32 (gen : Int), .int .u32 (v0 : Int), .int .i64 l0, .slice A0 n0 c0, .int .u32 (v1 : Int), .int .i64 l1, .slice A1 n1 c1, .bool on, .int .u32 (s : Int), .int .u32 (u : Int), .int .i64 l, .int .i64 z, .int .i64 p, .slice A n c] ∧
      I64 act ∧ I64 trial ∧ flo < 4294967296 ∧ gen < 4294967296 ∧ v0 < 4294967296 ∧ I64 l0 ∧ InRow W A0 n0 c0 h0 ∧ v1 < 4294967296 ∧ I64 l1 ∧ InRow W A1 n1 c1 h1 ∧ s < 4294967296 ∧ u < 4294967296 ∧ I64 l ∧ I64 z ∧ I64 p ∧ InRow W A n c h := by
  have hv := hval
  unfold Value.okWide at hv
  rw [Try.underlying30] at hv
  obtain ⟨cs, rfl, hsz, _⟩ := hv
  obtain ⟨fuel, hf⟩ := h
  obtain ⟨xs, m, _, _, hlen, hxl, hx⟩ := DataW.trod_struct Try.underlying30 hf
  have hct : Try.prog.cellsOf 30 = 17 := by kernel_rfl
  have k1 : Try.prog.cellsOf 3 = 1 := by kernel_rfl
  have k2 : Try.prog.cellsOf 22 = 1 := by kernel_rfl
  have k3 : Try.prog.cellsOf 26 = 6 := by kernel_rfl
  have k4 : Try.prog.cellsOf 4 = 1 := by kernel_rfl
  have k5 : Try.prog.cellsOf 28 = 6 := by kernel_rfl
  rw [hct] at hlen
  have hsz17 : cs.size = 17 := hlen
  obtain ⟨q0, q1, q2, q3, q4, q5, q6, q7, q8, q9, q10, q11, q12, q13, q14, q15, q16, rfl⟩ : ∃ q0 q1 q2 q3 q4 q5 q6 q7 q8 q9 q10 q11 q12 q13 q14 q15 q16, cs = #[q0, q1, q2, q3, q4, q5, q6, q7, q8, q9, q10, q11, q12, q13, q14, q15, q16] := by
    match cs, hsz17 with
    | ⟨[q0, q1, q2, q3, q4, q5, q6, q7, q8, q9, q10, q11, q12, q13, q14, q15, q16]⟩, _ => exact ⟨_, _, _, _, _, _, _, _, _, _, _, _, _, _, _, _, _, rfl⟩
  have hxl7 : xs.length = 7 := hxl
  have g0 : DataW.trod enc Try.prog W 0 (fun _ => true) true m 3 (([q0, q1, q2, q3, q4, q5, q6, q7, q8, q9, q10, q11, q12, q13, q14, q15, q16].drop 0).take (Try.prog.cellsOf 3)) = xs[0]? := hx 0 _ rfl
  have g1 : DataW.trod enc Try.prog W 0 (fun _ => true) true m 3 (([q0, q1, q2, q3, q4, q5, q6, q7, q8, q9, q10, q11, q12, q13, q14, q15, q16].drop 1).take (Try.prog.cellsOf 3)) = xs[1]? := hx 1 _ rfl
  have g2 : DataW.trod enc Try.prog W 0 (fun _ => true) true m 22 (([q0, q1, q2, q3, q4, q5, q6, q7, q8, q9, q10, q11, q12, q13, q14, q15, q16].drop 2).take (Try.prog.cellsOf 22)) = xs[2]? := hx 2 _ rfl
  have g3 : DataW.trod enc Try.prog W 0 (fun _ => true) true m 22 (([q0, q1, q2, q3, q4, q5, q6, q7, q8, q9, q10, q11, q12, q13, q14, q15, q16].drop 3).take (Try.prog.cellsOf 22)) = xs[3]? := hx 3 _ rfl
  have g4 : DataW.trod enc Try.prog W 0 (fun _ => true) true m 26 (([q0, q1, q2, q3, q4, q5, q6, q7, q8, q9, q10, q11, q12, q13, q14, q15, q16].drop 4).take (Try.prog.cellsOf 26)) = xs[4]? := hx 4 _ rfl
  have g5 : DataW.trod enc Try.prog W 0 (fun _ => true) true m 4 (([q0, q1, q2, q3, q4, q5, q6, q7, q8, q9, q10, q11, q12, q13, q14, q15, q16].drop 10).take (Try.prog.cellsOf 4)) = xs[5]? := hx 5 _ rfl
  have g6 : DataW.trod enc Try.prog W 0 (fun _ => true) true m 28 (([q0, q1, q2, q3, q4, q5, q6, q7, q8, q9, q10, q11, q12, q13, q14, q15, q16].drop 11).take (Try.prog.cellsOf 28)) = xs[6]? := hx 6 _ rfl
  rw [List.getElem?_eq_getElem (by omega)] at g0 g1 g2 g3 g4 g5 g6
  rw [k1] at g0 g1
  rw [k2] at g2 g3
  rw [k3] at g4
  rw [k4] at g5
  rw [k5] at g6
  obtain ⟨act, ha, hal⟩ := open_ci64 Try.underlying3 g0
  obtain ⟨trial, ht, htl⟩ := open_ci64 Try.underlying3 g1
  obtain ⟨flo, hf2, hfl⟩ := open_cu32 Try.underlying22 g2
  obtain ⟨gen, hg, hgl⟩ := open_cu32 Try.underlying22 g3
  obtain ⟨v0, l0, A0, n0, c0, h0, v1, l1, A1, n1, c1, h1, hs, r⟩ := open_slots6 g4
  obtain ⟨on, ho, _⟩ := DataW.trod_bool Try.underlying4 g5
  obtain ⟨s, u, l, z, p, A, n, c, hh, hm, rm⟩ := open_man6 g6
  simp at ha ht hf2 hg hs ho hm
  obtain ⟨rfl, rfl, rfl, rfl, rfl, rfl⟩ := hs
  obtain ⟨rfl, rfl, rfl, rfl, rfl, rfl⟩ := hm
  subst ha ht hf2 hg ho
  exact ⟨act, trial, flo, gen, v0, l0, A0, n0, c0, h0, v1, l1, A1, n1, c1, h1, on, s, u, l, z, p, A, n, c, hh, rfl, hal, htl, hfl, hgl, r.1, r.2.1, r.2.2.1, r.2.2.2.1, r.2.2.2.2.1, r.2.2.2.2.2, rm⟩
end
end
section
open Go.RowKit
/-- the reader, the box of the result, the box of what is read: where reading stands -/
structure StIn (w : World) (g B b3 : Nat) (cells : Array Value) (r : Rd) (W : World) : Prop where
  rd : RdTo g B r w W
  bx : W.heap[b3]? = some (.cells cells 30 (0, 0))
  z : W.heap[w.heap.size]? = some (.cells #[.int .i64 0, .int .i64 0, .int .u32 0, .int .u32 0, .int .u32 0, .int .i64 0, .slice none 0 0, .int .u32 0, .int .i64 0, .slice none 0 0, .bool false, .int .u32 0, .int .u32 0, .int .i64 0, .int .i64 0, .int .i64 0, .slice none 0 0] 30 (0, 0))
theorem StIn.next {w W W' : World} {g B b3 : Nat} {cells : Array Value} {r r' : Rd} (h : StIn w g B b3 cells r W) (h2 : RdTo g B r' W W') (hg : g < w.heap.size) (hb : w.heap.size < b3) : StIn w g B b3 cells r' W' :=
  ⟨h.rd.trans h2, h2.box h.bx (by omega), h2.box h.z (by omega)⟩
theorem RdTo.setC {w w1 : World} {g B k : Nat} {r : Rd} (h : RdTo g B r w w1) (hk : w.heap.size ≤ k) (hg : g < w.heap.size) (j : Nat) (v : Value) : RdTo g B r w (w1.setCell ⟨k, j, none⟩ v) := by
  obtain ⟨⟨A, c, hx, hr, hBg, hn, hc⟩, hgr⟩ := h
  refine ⟨⟨A, c, (heap_setCell_other _ _ _ _ (by show g ≠ k; omega)).trans hx, hr.setCell (p := ⟨k, j, none⟩) (by show B ≤ k; omega) v, hBg, hn, hc⟩, ?_⟩
  exact ⟨hgr.os, hgr.tape, hgr.output, by simpa using hgr.size, fun b hb hne => (heap_setCell_other _ _ _ _ (by show b ≠ k; omega)).trans (hgr.block b hb hne)⟩
theorem StIn.setC {w W : World} {g B b3 : Nat} {cells : Array Value} {r : Rd} (h : StIn w g B b3 cells r W) (hg : g < w.heap.size) (hb : w.heap.size < b3) (j : Nat) (v : Value) : StIn w g B b3 (cells.setIfInBounds j v) r (W.setCell ⟨b3, j, none⟩ v) :=
  ⟨h.rd.setC (Nat.le_of_lt hb) hg j v, heap_setCell_same W b3 j _ _ v h.bx, (heap_setCell_other _ _ _ _ (by show w.heap.size ≠ b3; omega)).trans h.z⟩
theorem StIn.cast {w W : World} {g B b3 : Nat} {cells cells' : Array Value} {r : Rd} (h : StIn w g B b3 cells r W) (e : cells = cells') : StIn w g B b3 cells' r W := e ▸ h
theorem RowP.setC {W : World} {b3 n : Nat} {A : Option Addr} {xs : List Value} (h : RowP W (fun b => b3 < b) A n xs) (j : Nat) (v : Value) : RowP (W.setCell ⟨b3, j, none⟩ v) (fun b => b3 < b) A n xs :=
  h.keep (by simp) fun b hb _ => heap_setCell_other _ _ _ _ (by show b ≠ b3; omega)
theorem RowP.rd {W W' : World} {g B b3 n : Nat} {r : Rd} {A : Option Addr} {xs : List Value} (h : RowP W (fun b => b3 < b) A n xs) (h2 : RdTo g B r W W') (hg : g < b3) : RowP W' (fun b => b3 < b) A n xs :=
  h.keep h2.2.size fun b hb hl => h2.2.block b hl (fun e => by have : b = g := Option.some.inj e; omega)
/-- a state that is read -/
def StRd (g B : Nat) (L : LSt) (r : Rd) (w : World) (e : Ending) (w' : World) : Prop :=
  ∃ cs, e = .returned (.agg cs) ∧ Hid (IsSt w' (fun b => w.heap.size ≤ b) cs L) ∧ Hid (RdTo g B r w w')
theorem got_len (r : Rd) (n : Nat) : (r.got n).length ≤ n := by unfold Rd.got; split <;> simp <;> omega
theorem num1_lt (r : Rd) : (Rd.num 1 r).1 < 256 := by
  show CrcM.number (r.got 1) < 256
  have h := got_len r 1
  generalize r.got 1 = l at *
  match l, h with
  | [], _ => simp [CrcM.number]
  | [a], _ => have := CrcM.b_lt a; simp only [CrcM.number, List.foldl_cons, List.foldl_nil]; omega
/-- how far the slots are read -/
def StLoop (w : World) (g B b3 n1 n2 n3 n4 : Nat) (S0 S1 : LSlot) (r4 r5 r6 : Rd) (k : Nat) (W : World) : Prop :=
  (k = 0 ∧ StIn w g B b3 #[.int .i64 (n1 : Int), .int .i64 (n2 : Int), .int .u32 (n3 : Int), .int .u32 (n4 : Int), .int .u32 0, .int .i64 0, .slice none 0 0, .int .u32 0, .int .i64 0, .slice none 0 0, .bool false, .int .u32 0, .int .u32 0, .int .i64 0, .int .i64 0, .int .i64 0, .slice none 0 0] r4 W) ∨ (k = 1 ∧ ∃ A0 c0, RowP W (fun b => b3 < b) A0 S0.h.length (bv S0.h) ∧ StIn w g B b3 #[.int .i64 (n1 : Int), .int .i64 (n2 : Int), .int .u32 (n3 : Int), .int .u32 (n4 : Int), .int .u32 (S0.v : Int), .int .i64 S0.l, .slice A0 S0.h.length c0, .int .u32 0, .int .i64 0, .slice none 0 0, .bool false, .int .u32 0, .int .u32 0, .int .i64 0, .int .i64 0, .int .i64 0, .slice none 0 0] r5 W) ∨
  (k = 2 ∧ ∃ A0 c0 A1 c1, RowP W (fun b => b3 < b) A0 S0.h.length (bv S0.h) ∧ RowP W (fun b => b3 < b) A1 S1.h.length (bv S1.h) ∧ StIn w g B b3 #[.int .i64 (n1 : Int), .int .i64 (n2 : Int), .int .u32 (n3 : Int), .int .u32 (n4 : Int), .int .u32 (S0.v : Int), .int .i64 S0.l, .slice A0 S0.h.length c0, .int .u32 (S1.v : Int), .int .i64 S1.l, .slice A1 S1.h.length c1, .bool false, .int .u32 0, .int .u32 0, .int .i64 0, .int .i64 0, .int .i64 0, .slice none 0 0] r6 W)
set_option maxRecDepth 100000 in
set_option maxHeartbeats 3200000 in
theorem rstate_walk (n1 n2 n3 n4 : Nat) (S0 S1 : LSlot) (f : Bool) (M : LMan) (r1 r2 r3 r4 r5 r6 r7 r8 : Rd) {w : World} {g B : Nat} {r : Rd} (h : RdAt w g B r)
    (e1 : Rd.num 1 r = (n1, r1)) (e2 : Rd.num 1 r1 = (n2, r2)) (e3 : Rd.num 4 r2 = (n3, r3)) (e4 : Rd.num 4 r3 = (n4, r4)) (e5 : Rd.slot r4 = (S0, r5)) (e6 : Rd.slot r5 = (S1, r6)) (e7 : r6.flag = (f, r7)) (e8 : Rd.man r7 = (M, r8)) (L : LSt) (rF : Rd) (hL : Hid (L = ⟨n1, n2, n3, n4, S0.v, S0.l, S0.h, S1.v, S1.l, S1.h, f, if f then M else LMan.zero⟩)) (hF : Hid (rF = if f then r8 else r7)) :
    Calls Try.prog 37 #[.pointer (some ⟨g, 0, none⟩)] w (StRd g B L rF w) := by
  have hb0 : Below w.heap.size w (w.alloc (.cells #[.int .i64 0, .int .i64 0, .int .u32 0, .int .u32 0, .int .u32 0, .int .i64 0, .slice none 0 0, .int .u32 0, .int .i64 0, .slice none 0 0, .bool false, .int .u32 0, .int .u32 0, .int .i64 0, .int .i64 0, .int .i64 0, .slice none 0 0] 30)) := (Below.refl _ _).alloc (Nat.le_refl _) _
  have X0 := Lib.hid (heap_alloc_new w (.cells #[.int .i64 0, .int .i64 0, .int .u32 0, .int .u32 0, .int .u32 0, .int .i64 0, .slice none 0 0, .int .u32 0, .int .i64 0, .slice none 0 0, .bool false, .int .u32 0, .int .u32 0, .int .i64 0, .int .i64 0, .int .i64 0, .slice none 0 0] 30))
  have H0 := Lib.hid (h.below hb0)
  have LG := Lib.hid h.lt
  have BG := Lib.hid h.le
  have B0 := Lib.hid hb0
  have hn1 : (n1 : Int) ≤ 255 := by have := num1_lt r; rw [e1] at this; have : n1 < 256 := this; omega
  have hn2 : (n2 : Int) ≤ 255 := by have := num1_lt r1; rw [e2] at this; have : n2 < 256 := this; omega
  have c1 := fun (W : World) (rr : RdAt W g B r) => rnum_any 1 (by omega) (by omega) rr
  have c2 := fun (W : World) (rr : RdAt W g B r1) => rnum_any 1 (by omega) (by omega) rr
  have c3 := fun (W : World) (rr : RdAt W g B r2) => rnum_any 4 (by omega) (by omega) rr
  have c4 := fun (W : World) (rr : RdAt W g B r3) => rnum_any 4 (by omega) (by omega) rr
  have c5 := fun (W : World) (rr : RdAt W g B r4) => rslot_any rr
  have c6 := fun (W : World) (rr : RdAt W g B r5) => rslot_any rr
  have c7 := fun (W : World) (rr : RdAt W g B r6) => rflag_any rr
  have c8 := fun (W : World) (rr : RdAt W g B r7) => rman_any rr
  have p1 : r.past 1 = r1 := congrArg Prod.snd e1
  have p2 : r1.past 1 = r2 := congrArg Prod.snd e2
  have p3 : r2.past 4 = r3 := congrArg Prod.snd e3
  have p4 : r3.past 4 = r4 := congrArg Prod.snd e4
  unfold NumOk at c1 c2 c3 c4
  unfold FlagOk at c7
  rw [e1, p1] at c1; rw [e2, p2] at c2; rw [e3, p3] at c3; rw [e4, p4] at c4; rw [e5] at c5; rw [e6] at c6; rw [e7] at c7; rw [e8] at c8
  dsimp only at c1 c2 c3 c4 c5 c6 c7 c8
  have C1 := Lib.hid c1
  have C2 := Lib.hid c2
  have C3 := Lib.hid c3
  have C4 := Lib.hid c4
  have C5 := Lib.hid c5
  have C6 := Lib.hid c6
  have C7 := Lib.hid c7
  have C8 := Lib.hid c8
  clear h hb0 e1 e2 e3 e4 e5 e6 e7 e8 p1 p2 p3 p4 c1 c2 c3 c4 c5 c6 c7 c8
  go_enter Try.func37, Try.ntmps37
  go_wp2_with fail
  refine (C1.out _ H0.out).mono ?_
  rintro e w1 ⟨rfl, t1⟩
  go_wp2_with fail
  refine (C2.out _ t1.out.1).mono ?_
  rintro e w2 ⟨rfl, t2⟩
  go_wp2_with fail
  refine (C3.out _ t2.out.1).mono ?_
  rintro e w3 ⟨rfl, t3⟩
  go_wp2_with fail
  refine (C4.out _ t3.out.1).mono ?_
  rintro e w4 ⟨rfl, t4⟩
  have TT := ((t1.out.trans t2.out).trans t3.out).trans t4.out
  have x4 := TT.box X0.out (by have := LG.out; omega)
  have t0 := RdTo.of_below B0.out TT
  have L3 : w.heap.size < w4.heap.size := (Array.getElem?_eq_some_iff.1 x4).1
  have ba : Below w4.heap.size w4 (w4.alloc (.cells #[.int .i64 (n1 : Int), .int .i64 (n2 : Int), .int .u32 (n3 : Int), .int .u32 (n4 : Int), .int .u32 0, .int .i64 0, .slice none 0 0, .int .u32 0, .int .i64 0, .slice none 0 0, .bool false, .int .u32 0, .int .u32 0, .int .i64 0, .int .i64 0, .int .i64 0, .slice none 0 0] 30)) := (Below.refl _ _).alloc (Nat.le_refl _) _
  have hI : Hid (StLoop w g B w4.heap.size n1 n2 n3 n4 S0 S1 r4 r5 r6 0 (w4.alloc (.cells #[.int .i64 (n1 : Int), .int .i64 (n2 : Int), .int .u32 (n3 : Int), .int .u32 (n4 : Int), .int .u32 0, .int .i64 0, .slice none 0 0, .int .u32 0, .int .i64 0, .slice none 0 0, .bool false, .int .u32 0, .int .u32 0, .int .i64 0, .int .i64 0, .int .i64 0, .slice none 0 0] 30))) := Lib.hid (.inl ⟨rfl, ⟨t0.1.below ba, t0.2.trans (grown_of_below _ ba)⟩, heap_alloc_new _ _, (ba.block _ L3).trans x4⟩)
  have LB := Lib.hid L3
  clear t1 t2 t3 t4 TT x4 t0 L3 ba H0 X0 B0 C1 C2 C3 C4
  go_wp2_with ((with_reducible show wpList _ _ _ _ _ _); refine wpList_store_new rfl rfl _ (.tmp 3) (.tmp 15) rfl _ _ #[.int .i64 (n1 : Int), .int .i64 (n2 : Int), .int .u32 (n3 : Int), .int .u32 (n4 : Int), .int .u32 0, .int .i64 0, .slice none 0 0, .int .u32 0, .int .i64 0, .slice none 0 0, .bool false, .int .u32 0, .int .u32 0, .int .i64 0, .int .i64 0, .int .i64 0, .slice none 0 0] _ rfl rfl (by kernel_rfl) (by rfl) (by simp [Value.oneCell']) ?_)
  generalize w4.alloc (.cells #[.int .i64 (n1 : Int), .int .i64 (n2 : Int), .int .u32 (n3 : Int), .int .u32 (n4 : Int), .int .u32 0, .int .i64 0, .slice none 0 0, .int .u32 0, .int .i64 0, .slice none 0 0, .bool false, .int .u32 0, .int .u32 0, .int .i64 0, .int .i64 0, .int .i64 0, .slice none 0 0] 30) = w5 at *
  generalize w4.heap.size = b3 at *
  go_loopw [16] (fun x wr => ∃ k : Nat, k ≤ 2 ∧ x = .int .i64 k ∧ Hid (StLoop w g B b3 n1 n2 n3 n4 S0 S1 r4 r5 r6 k wr)) (fun x _ => 2 - (intOf x).toNat)
  case atStart => exact ⟨0, by omega, rfl, hI⟩
  case round =>
    clear hI
    obtain ⟨k, hk, rfl, hL⟩ := hrel
    rcases hL.out with ⟨rfl, hs⟩ | ⟨rfl, A0, c0, ha, hs⟩ | ⟨rfl, A0, c0, A1, c1, ha, ha1, hs⟩
    · have HS := Lib.hid hs
      clear hs hL
      go_wp2_with fail
      refine (C5.out _ HS.out.rd.1).mono ?_
      rintro e w6 ⟨A0, c0, rfl, hrow, hto⟩
      have h6 := HS.out.next hto.out LG.out LB.out
      have hr6 : RowP w6 (fun b => b3 < b) A0 S0.h.length (bv S0.h) := hrow.out.imp fun b _ hb => Nat.lt_of_lt_of_le (Array.getElem?_eq_some_iff.1 HS.out.bx).1 hb
      have hn : Hid (StLoop w g B b3 n1 n2 n3 n4 S0 S1 r4 r5 r6 1 (((w6.setCell ⟨b3, 4, none⟩ (.int .u32 (S0.v : Int))).setCell ⟨b3, 5, none⟩ (.int .i64 S0.l)).setCell ⟨b3, 6, none⟩ (.slice A0 S0.h.length c0))) :=
        Lib.hid (.inr (.inl ⟨rfl, A0, c0, ((hr6.setC _ _).setC _ _).setC _ _, (((h6.setC LG.out LB.out 4 (.int .u32 (S0.v : Int))).setC LG.out LB.out 5 (.int .i64 S0.l)).setC LG.out LB.out 6 (.slice A0 S0.h.length c0)).cast (by simp)⟩))
      have k4 := cell_of_row w6 b3 4 _ _ (0, 0) h6.bx
      have k5 := cell_of_row w6 b3 5 _ _ (0, 0) h6.bx
      have k6 := cell_of_row w6 b3 6 _ _ (0, 0) h6.bx
      have f4 := frozen_of_row w6 b3 4 _ _ h6.bx
      have f5 := frozen_of_row w6 b3 5 _ _ h6.bx
      have f6 := frozen_of_row w6 b3 6 _ _ h6.bx
      clear h6 hr6 hrow hto HS
      unfold LSlot.cells
      go_wp2_with fail
      go_roundw
      case rel => exact ⟨1, by omega, by go_num, hn⟩
      case measure => simp [intOf]
    · have HS := Lib.hid hs
      have HA := Lib.hid ha
      clear hs ha hL
      go_wp2_with fail
      refine (C6.out _ HS.out.rd.1).mono ?_
      rintro e w6 ⟨A1, c1, rfl, hrow, hto⟩
      have h6 := HS.out.next hto.out LG.out LB.out
      have hr6 : RowP w6 (fun b => b3 < b) A1 S1.h.length (bv S1.h) := hrow.out.imp fun b _ hb => Nat.lt_of_lt_of_le (Array.getElem?_eq_some_iff.1 HS.out.bx).1 hb
      have hr0 := HA.out.rd hto.out (Nat.lt_trans LG.out LB.out)
      have hn : Hid (StLoop w g B b3 n1 n2 n3 n4 S0 S1 r4 r5 r6 2 (((w6.setCell ⟨b3, 7, none⟩ (.int .u32 (S1.v : Int))).setCell ⟨b3, 8, none⟩ (.int .i64 S1.l)).setCell ⟨b3, 9, none⟩ (.slice A1 S1.h.length c1))) :=
        Lib.hid (.inr (.inr ⟨rfl, A0, c0, A1, c1, ((hr0.setC _ _).setC _ _).setC _ _, ((hr6.setC _ _).setC _ _).setC _ _, (((h6.setC LG.out LB.out 7 (.int .u32 (S1.v : Int))).setC LG.out LB.out 8 (.int .i64 S1.l)).setC LG.out LB.out 9 (.slice A1 S1.h.length c1)).cast (by simp)⟩))
      have k4 := cell_of_row w6 b3 7 _ _ (0, 0) h6.bx
      have k5 := cell_of_row w6 b3 8 _ _ (0, 0) h6.bx
      have k6 := cell_of_row w6 b3 9 _ _ (0, 0) h6.bx
      have f4 := frozen_of_row w6 b3 7 _ _ h6.bx
      have f5 := frozen_of_row w6 b3 8 _ _ h6.bx
      have f6 := frozen_of_row w6 b3 9 _ _ h6.bx
      clear h6 hr6 hr0 hrow hto HS HA
      unfold LSlot.cells
      go_wp2_with fail
      go_roundw
      case rel => exact ⟨2, by omega, by go_num, hn⟩
      case measure => simp [intOf]
    · have HS := Lib.hid hs
      have HA := Lib.hid ha
      have HA1 := Lib.hid ha1
      clear hs ha ha1 hL C5 C6
      go_wp2_with fail
      refine (C7.out _ HS.out.rd.1).mono ?_
      rintro e w6 ⟨rfl, hto⟩
      have h6 := HS.out.next hto.out LG.out LB.out
      have h7 : StIn w g B b3 #[.int .i64 (n1 : Int), .int .i64 (n2 : Int), .int .u32 (n3 : Int), .int .u32 (n4 : Int), .int .u32 (S0.v : Int), .int .i64 S0.l, .slice A0 S0.h.length c0, .int .u32 (S1.v : Int), .int .i64 S1.l, .slice A1 S1.h.length c1, .bool f, .int .u32 0, .int .u32 0, .int .i64 0, .int .i64 0, .int .i64 0, .slice none 0 0] r7 (w6.setCell ⟨b3, 10, none⟩ (.bool f)) := (h6.setC LG.out LB.out 10 (.bool f)).cast (by simp)
      have H7 := Lib.hid h7
      clear h7
      have R0 := Lib.hid ((HA.out.rd hto.out (Nat.lt_trans LG.out LB.out)).setC 10 (.bool f))
      have R1 := Lib.hid ((HA1.out.rd hto.out (Nat.lt_trans LG.out LB.out)).setC 10 (.bool f))
      have k4 := cell_of_row w6 b3 10 _ _ (0, 0) h6.bx
      have f4 := frozen_of_row w6 b3 10 _ _ h6.bx
      have k5 := cell_of_row _ b3 10 _ _ (0, 0) H7.out.bx
      clear h6 hto HS HA HA1
      cases f with
      | false =>
        clear C8
        go_wp2_with (first
          | ((with_reducible show wpList _ _ _ _ _ _); refine wpList_load_row (o := ⟨some 33, _, _, _, _, _⟩) rfl _ (.tmp 3) rfl b3 rfl _ _ _ _ H7.out.bx Try.underlying30 rfl (by kernel_rfl) ?_)
          | ((with_reducible show wpList _ _ _ _ _ _); refine wpList_store_row rfl _ (.tmp 2) (.tmp 33) rfl (w.heap.size) #[.int .i64 (n1 : Int), .int .i64 (n2 : Int), .int .u32 (n3 : Int), .int .u32 (n4 : Int), .int .u32 (S0.v : Int), .int .i64 S0.l, .slice A0 S0.h.length c0, .int .u32 (S1.v : Int), .int .i64 S1.l, .slice A1 S1.h.length c1, .bool false, .int .u32 0, .int .u32 0, .int .i64 0, .int .i64 0, .int .i64 0, .slice none 0 0] rfl rfl _ _ H7.out.z (by kernel_rfl) (by kernel_rfl) (by simp [Value.oneCell']) ?_))
        generalize (w6.setCell ⟨b3, 10, none⟩ (.bool false)) = w7 at *
        have hrow : (w7.setRow w.heap.size #[.int .i64 (n1 : Int), .int .i64 (n2 : Int), .int .u32 (n3 : Int), .int .u32 (n4 : Int), .int .u32 (S0.v : Int), .int .i64 S0.l, .slice A0 S0.h.length c0, .int .u32 (S1.v : Int), .int .i64 S1.l, .slice A1 S1.h.length c1, .bool false, .int .u32 0, .int .u32 0, .int .i64 0, .int .i64 0, .int .i64 0, .slice none 0 0]).heap[w.heap.size]? = some (.cells #[.int .i64 (n1 : Int), .int .i64 (n2 : Int), .int .u32 (n3 : Int), .int .u32 (n4 : Int), .int .u32 (S0.v : Int), .int .i64 S0.l, .slice A0 S0.h.length c0, .int .u32 (S1.v : Int), .int .i64 S1.l, .slice A1 S1.h.length c1, .bool false, .int .u32 0, .int .u32 0, .int .i64 0, .int .i64 0, .int .i64 0, .slice none 0 0] 30 (0, 0)) := setRow_heap _ _ _ _ _ _ H7.out.z
        refine bodyPost_ret (results_cell_row rfl _ _ (w.heap.size) _ _ (0, 0) _ rfl hrow Try.underlying30 rfl (by kernel_rfl)) rfl ?_
        rw [hL.out, hF.out]
        refine ⟨_, rfl, Lib.hid ⟨A0, c0, A1, c1, none, 0, rfl, ?_, ?_, .nil _ _ _⟩, Lib.hid (H7.out.rd.setRow (Nat.le_refl _) LG.out (by have := LG.out; have := BG.out; omega) _)⟩
        · exact (R0.out.keep (by simp) fun b hb _ => setRow_other _ _ _ _ (by have := LB.out; omega)).imp fun b _ hb => by have := LB.out; omega
        · exact (R1.out.keep (by simp) fun b hb _ => setRow_other _ _ _ _ (by have := LB.out; omega)).imp fun b _ hb => by have := LB.out; omega
      | true =>
        go_wp2_with fail
        generalize hw7 : (w6.setCell ⟨b3, 10, none⟩ (.bool true)) = w7 at *
        clear hw7 k4 f4 k5
        refine (C8.out _ H7.out.rd.1).mono ?_
        rintro e w8 ⟨cs, rfl, hman, hto⟩
        obtain ⟨AM, cM, rfl, hrm⟩ := hman.out
        have h8 := H7.out.next hto.out LG.out LB.out
        have hrm : RowP w8 (fun b => b3 < b) AM M.h.length (bv M.h) := hrm.imp fun b _ hb => Nat.lt_of_lt_of_le (Array.getElem?_eq_some_iff.1 H7.out.bx).1 hb
        have hr0 := R0.out.rd hto.out (Nat.lt_trans LG.out LB.out)
        have hr1 := R1.out.rd hto.out (Nat.lt_trans LG.out LB.out)
        have h9 : StIn w g B b3 #[.int .i64 (n1 : Int), .int .i64 (n2 : Int), .int .u32 (n3 : Int), .int .u32 (n4 : Int), .int .u32 (S0.v : Int), .int .i64 S0.l, .slice A0 S0.h.length c0, .int .u32 (S1.v : Int), .int .i64 S1.l, .slice A1 S1.h.length c1, .bool true, .int .u32 (M.s : Int), .int .u32 (M.v : Int), .int .i64 M.l, .int .i64 M.z, .int .i64 M.p, .slice AM M.h.length cM] r8 ((((((w8.setCell ⟨b3, 11, none⟩ (.int .u32 (M.s : Int))).setCell ⟨b3, 12, none⟩ (.int .u32 (M.v : Int))).setCell ⟨b3, 13, none⟩ (.int .i64 M.l)).setCell ⟨b3, 14, none⟩ (.int .i64 M.z)).setCell ⟨b3, 15, none⟩ (.int .i64 M.p)).setCell ⟨b3, 16, none⟩ (.slice AM M.h.length cM)) := ((((((h8.setC LG.out LB.out 11 (.int .u32 (M.s : Int))).setC LG.out LB.out 12 (.int .u32 (M.v : Int))).setC LG.out LB.out 13 (.int .i64 M.l)).setC LG.out LB.out 14 (.int .i64 M.z)).setC LG.out LB.out 15 (.int .i64 M.p)).setC LG.out LB.out 16 (.slice AM M.h.length cM)).cast (by simp)
        have q0 := Lib.hid ((((((hr0.setC 11 (.int .u32 (M.s : Int))).setC 12 (.int .u32 (M.v : Int))).setC 13 (.int .i64 M.l)).setC 14 (.int .i64 M.z)).setC 15 (.int .i64 M.p)).setC 16 (.slice AM M.h.length cM))
        have q1 := Lib.hid ((((((hr1.setC 11 (.int .u32 (M.s : Int))).setC 12 (.int .u32 (M.v : Int))).setC 13 (.int .i64 M.l)).setC 14 (.int .i64 M.z)).setC 15 (.int .i64 M.p)).setC 16 (.slice AM M.h.length cM))
        have qm := Lib.hid ((((((hrm.setC 11 (.int .u32 (M.s : Int))).setC 12 (.int .u32 (M.v : Int))).setC 13 (.int .i64 M.l)).setC 14 (.int .i64 M.z)).setC 15 (.int .i64 M.p)).setC 16 (.slice AM M.h.length cM))
        have H9 := Lib.hid h9
        have k11 := cell_of_row w8 b3 11 _ _ (0, 0) h8.bx
        have k12 := cell_of_row w8 b3 12 _ _ (0, 0) h8.bx
        have k13 := cell_of_row w8 b3 13 _ _ (0, 0) h8.bx
        have k14 := cell_of_row w8 b3 14 _ _ (0, 0) h8.bx
        have k15 := cell_of_row w8 b3 15 _ _ (0, 0) h8.bx
        have k16 := cell_of_row w8 b3 16 _ _ (0, 0) h8.bx
        have f11 := frozen_of_row w8 b3 11 _ _ h8.bx
        have f12 := frozen_of_row w8 b3 12 _ _ h8.bx
        have f13 := frozen_of_row w8 b3 13 _ _ h8.bx
        have f14 := frozen_of_row w8 b3 14 _ _ h8.bx
        have f15 := frozen_of_row w8 b3 15 _ _ h8.bx
        have f16 := frozen_of_row w8 b3 16 _ _ h8.bx
        clear h8 h9 hrm hr0 hr1 hto hman H7 R0 R1 C8
        have I9 : Hid ((Try.prog.info? 30).map (·.size) = some (#[.int .i64 (n1 : Int), .int .i64 (n2 : Int), .int .u32 (n3 : Int), .int .u32 (n4 : Int), .int .u32 (S0.v : Int), .int .i64 S0.l, .slice A0 S0.h.length c0, .int .u32 (S1.v : Int), .int .i64 S1.l, .slice A1 S1.h.length c1, .bool true, .int .u32 (M.s : Int), .int .u32 (M.v : Int), .int .i64 M.l, .int .i64 M.z, .int .i64 M.p, .slice AM M.h.length cM] : Array Value).size) := Lib.hid (by kernel_rfl)
        have Z9 : Hid ((#[.int .i64 0, .int .i64 0, .int .u32 0, .int .u32 0, .int .u32 0, .int .i64 0, .slice none 0 0, .int .u32 0, .int .i64 0, .slice none 0 0, .bool false, .int .u32 0, .int .u32 0, .int .i64 0, .int .i64 0, .int .i64 0, .slice none 0 0] : Array Value).size = (#[.int .i64 (n1 : Int), .int .i64 (n2 : Int), .int .u32 (n3 : Int), .int .u32 (n4 : Int), .int .u32 (S0.v : Int), .int .i64 S0.l, .slice A0 S0.h.length c0, .int .u32 (S1.v : Int), .int .i64 S1.l, .slice A1 S1.h.length c1, .bool true, .int .u32 (M.s : Int), .int .u32 (M.v : Int), .int .i64 M.l, .int .i64 M.z, .int .i64 M.p, .slice AM M.h.length cM] : Array Value).size) := Lib.hid rfl
        have O9 : Hid ((#[.int .i64 (n1 : Int), .int .i64 (n2 : Int), .int .u32 (n3 : Int), .int .u32 (n4 : Int), .int .u32 (S0.v : Int), .int .i64 S0.l, .slice A0 S0.h.length c0, .int .u32 (S1.v : Int), .int .i64 S1.l, .slice A1 S1.h.length c1, .bool true, .int .u32 (M.s : Int), .int .u32 (M.v : Int), .int .i64 M.l, .int .i64 M.z, .int .i64 M.p, .slice AM M.h.length cM] : Array Value).all (·.oneCell') = true) := Lib.hid (by simp [Value.oneCell'])
        unfold LMan.cells
        go_upto_region 10 with fail
        generalize ((((((w8.setCell ⟨b3, 11, none⟩ (.int .u32 (M.s : Int))).setCell ⟨b3, 12, none⟩ (.int .u32 (M.v : Int))).setCell ⟨b3, 13, none⟩ (.int .i64 M.l)).setCell ⟨b3, 14, none⟩ (.int .i64 M.z)).setCell ⟨b3, 15, none⟩ (.int .i64 M.p)).setCell ⟨b3, 16, none⟩ (.slice AM M.h.length cM)) = w9 at *
        clear k11 k12 k13 k14 k15 k16 f11 f12 f13 f14 f15 f16
        go_wp2_with (first
          | ((with_reducible show wpList _ _ _ _ _ _); refine wpList_load_row (o := ⟨some 33, _, _, _, _, _⟩) rfl _ (.tmp 3) rfl b3 rfl _ _ _ _ H9.out.bx Try.underlying30 rfl (by kernel_rfl) ?_)
          | ((with_reducible show wpList _ _ _ _ _ _); refine wpList_store_row rfl _ (.tmp 2) (.tmp 33) rfl (w.heap.size) #[.int .i64 (n1 : Int), .int .i64 (n2 : Int), .int .u32 (n3 : Int), .int .u32 (n4 : Int), .int .u32 (S0.v : Int), .int .i64 S0.l, .slice A0 S0.h.length c0, .int .u32 (S1.v : Int), .int .i64 S1.l, .slice A1 S1.h.length c1, .bool true, .int .u32 (M.s : Int), .int .u32 (M.v : Int), .int .i64 M.l, .int .i64 M.z, .int .i64 M.p, .slice AM M.h.length cM] rfl rfl _ _ H9.out.z I9.out Z9.out O9.out ?_))
        have hrow : (w9.setRow w.heap.size #[.int .i64 (n1 : Int), .int .i64 (n2 : Int), .int .u32 (n3 : Int), .int .u32 (n4 : Int), .int .u32 (S0.v : Int), .int .i64 S0.l, .slice A0 S0.h.length c0, .int .u32 (S1.v : Int), .int .i64 S1.l, .slice A1 S1.h.length c1, .bool true, .int .u32 (M.s : Int), .int .u32 (M.v : Int), .int .i64 M.l, .int .i64 M.z, .int .i64 M.p, .slice AM M.h.length cM]).heap[w.heap.size]? = some (.cells #[.int .i64 (n1 : Int), .int .i64 (n2 : Int), .int .u32 (n3 : Int), .int .u32 (n4 : Int), .int .u32 (S0.v : Int), .int .i64 S0.l, .slice A0 S0.h.length c0, .int .u32 (S1.v : Int), .int .i64 S1.l, .slice A1 S1.h.length c1, .bool true, .int .u32 (M.s : Int), .int .u32 (M.v : Int), .int .i64 M.l, .int .i64 M.z, .int .i64 M.p, .slice AM M.h.length cM] 30 (0, 0)) := setRow_heap _ _ _ _ _ _ H9.out.z
        refine bodyPost_ret (results_cell_row rfl _ _ (w.heap.size) _ _ (0, 0) _ rfl hrow Try.underlying30 rfl (by kernel_rfl)) rfl ?_
        rw [hL.out, hF.out]
        refine ⟨_, rfl, Lib.hid ⟨A0, c0, A1, c1, AM, cM, rfl, ?_, ?_, ?_⟩, Lib.hid (H9.out.rd.setRow (Nat.le_refl _) LG.out (by have := LG.out; have := BG.out; omega) _)⟩
        · exact (q0.out.keep (by simp) fun b hb _ => setRow_other _ _ _ _ (by have := LB.out; omega)).imp fun b _ hb => by have := LB.out; omega
        · exact (q1.out.keep (by simp) fun b hb _ => setRow_other _ _ _ _ (by have := LB.out; omega)).imp fun b _ hb => by have := LB.out; omega
        · exact (qm.out.keep (by simp) fun b hb _ => setRow_other _ _ _ _ (by have := LB.out; omega)).imp fun b _ hb => by have := LB.out; omega
theorem pair_eta {α β : Type} (p : α × β) : p = (p.1, p.2) := rfl
theorem rstate_any {w : World} {g B : Nat} {r : Rd} (h : RdAt w g B r) :
    Calls Try.prog 37 #[.pointer (some ⟨g, 0, none⟩)] w (StRd g B (Rd.state r).1 (Rd.state r).2 w) := by
  have := rstate_walk _ _ _ _ _ _ _ _ _ _ _ _ _ _ _ _ h (pair_eta _) (pair_eta _) (pair_eta _) (pair_eta _) (pair_eta _) (pair_eta _) (pair_eta _) (pair_eta _) _ _ (Lib.hid rfl) (Lib.hid rfl)
  refine this.mono ?_
  intro e w' hh
  have e1 : Rd.state r = (mkSt (Rd.parts r).1, (Rd.parts r).2) := rfl
  rw [e1]
  unfold Rd.parts Rd.bind Rd.now mkSt
  dsimp only
  generalize (Rd.slot (Rd.slot (Rd.num 4 (Rd.num 4 (Rd.num 1 (Rd.num 1 r).2).2).2).2).2).2 = r6 at *
  cases hf : r6.flag.1 with
  | false => rw [hf] at hh; exact hh
  | true => rw [hf] at hh; exact hh
end
section
open Go.RowKit
theorem BoxS.setRow {g k : Nat} {cs : Array Value} {t : TypeId} {W : World} (h : BoxS g cs t W) (hk : g ≠ k) (v : Array Value) : BoxS g cs t (W.setRow k v) := (setRow_other _ _ _ _ hk).trans h
def ParseOk (l : List UInt8) (w : World) (e : Ending) (w' : World) : Prop := ∃ cs, e = .returned (.tuple #[.agg cs, .int .i64 (parseE l)]) ∧ Hid (IsSt w' (fun b => w.heap.size ≤ b) cs (parseL l)) ∧ Hid (Below w.heap.size w w')
set_option maxRecDepth 100000 in
set_option maxHeartbeats 3200000 in
theorem parse_any (A : Option Addr) (n c : Nat) (l : List UInt8) (w : World) (hl : Row w w.heap.size A n (bv l)) (hn : n ≤ c) (hc : c ≤ 9223372036854775807) :
    Calls Try.prog 13 #[.slice A n c] w (ParseOk l w) := by
  have ln : l.length = n := hl.blen
  have hb0 : Below w.heap.size w ((w.alloc (.cells zState 30)).alloc (.cells #[.slice A n c, .int .i64 0] 58)) := ((Below.refl _ _).alloc (Nat.le_refl _) _).alloc (by simp) _
  have hs0 : (w.alloc (.cells zState 30)).heap.size = w.heap.size + 1 := by simp
  have hx1 : ((w.alloc (.cells zState 30)).alloc (.cells #[.slice A n c, .int .i64 0] 58)).heap[w.heap.size + 1]? = some (.cells #[.slice A n c, .int .i64 0] 58 (0, 0)) := by rw [← hs0]; exact heap_alloc_new _ _
  have X0 : Hid (((w.alloc (.cells zState 30)).alloc (.cells #[.slice A n c, .int .i64 0] 58)).heap[w.heap.size]? = some (.cells zState 30 (0, 0))) := Lib.hid ((((Below.refl (w.alloc (.cells zState 30)).heap.size _).alloc (Nat.le_refl _) _).block w.heap.size (by simp)).trans (heap_alloc_new w _))
  have HRD : Hid (RdAt ((w.alloc (.cells zState 30)).alloc (.cells #[.slice A n c, .int .i64 0] 58)) (w.heap.size + 1) w.heap.size ⟨l, 0⟩) := Lib.hid ⟨A, c, by dsimp only; rw [ln]; exact hx1, by dsimp only; rw [ln]; exact hl.below hb0, Nat.le_succ _, by dsimp only; rw [ln]; exact hn, hc⟩
  have B0 := Lib.hid hb0
  clear hb0 hs0 hx1 hl hn hc ln
  have zs : zState = #[.int .i64 0, .int .i64 0, .int .u32 0, .int .u32 0, .int .u32 0, .int .i64 0, .slice none 0 0, .int .u32 0, .int .i64 0, .slice none 0 0, .bool false, .int .u32 0, .int .u32 0, .int .i64 0, .int .i64 0, .int .i64 0, .slice none 0 0] := rfl
  have HZS := Lib.hid zs
  rw [zs] at X0 HRD B0
  clear zs
  obtain ⟨EE, hEE⟩ : ∃ e, parseE l = e := ⟨_, rfl⟩
  obtain ⟨LL, hLL⟩ : ∃ e, parseL l = e := ⟨_, rfl⟩
  have HEE := Lib.hid hEE
  have HLL := Lib.hid hLL
  have HEE0 := Lib.hid hEE
  have HLL0 := Lib.hid hLL
  clear hEE hLL
  go_enter Try.func13, Try.ntmps13
  go_wp2_with fail
  rw [← HZS.out] at X0 HRD B0 ⊢
  have hw1s : ((w.alloc (.cells zState 30)).alloc (.cells #[.slice A n c, .int .i64 0] 58)).heap.size = w.heap.size + 1 + 1 := by simp
  have HS1 := Lib.hid hw1s
  clear hw1s
  generalize ((w.alloc (.cells zState 30)).alloc (.cells #[.slice A n c, .int .i64 0] 58)) = w1 at *
  refine (rstate_any HRD.out).mono ?_
  rintro e w3 ⟨cs, rfl, hst, hto⟩
  unfold parseE at HEE
  unfold parseL at HLL
  generalize (Rd.state ⟨l, 0⟩).1 = L at *
  generalize (Rd.state ⟨l, 0⟩).2 = r at *
  have x3 := hto.out.box X0.out (by omega)
  have hb3 : Below w.heap.size w w3 := B0.out.grown hto.out.2 B0.out.size (fun k hk => by injection hk with hk; omega)
  have hsz3 : w.heap.size + 1 < w3.heap.size := hto.out.1.lt
  have ba : Below w3.heap.size w3 (w3.alloc (.cells cs 30)) := (Below.refl _ _).alloc (Nat.le_refl _) _
  have X4 := Lib.hid ((ba.block _ (Array.getElem?_eq_some_iff.1 x3).1).trans x3)
  have HR4 := Lib.hid (hto.out.1.below ba)
  have Y4 := Lib.hid (heap_alloc_new w3 (.cells cs 30))
  have S4 := Lib.hid (hst.out.below ba)
  have I4 := Lib.hid hst.out.inf
  have O4 := Lib.hid hst.out.one
  have Z4 : Hid (17 = cs.size) := Lib.hid hst.out.size.symm
  have B4 := Lib.hid (hb3.trans (ba.mono hb3.size))
  have SZ3 := Lib.hid hsz3
  have L13 : Hid (w1.heap.size ≤ w3.heap.size) := Lib.hid hto.out.2.size
  clear hto hst x3 hb3 hsz3 ba HRD X0 B0
  obtain ⟨A', c', hrx, _⟩ := HR4.out
  have k0 := cell_of_row _ (w.heap.size + 1) 0 _ _ (0, 0) hrx
  have k1 := cell_of_row _ (w.heap.size + 1) 1 _ _ (0, 0) hrx
  have HRX := Lib.hid hrx
  clear hrx HR4
  by_cases he : r.e = 0
  · -- nothing was wrong
    have q : ((r.e : Int) != 0) = false := by simp [he]
    go_upto_region 5 with ((with_reducible show wpList _ _ _ _ _ _); refine wpList_store_new rfl rfl _ (.tmp 5) (.tmp 8) rfl _ _ cs _ rfl rfl I4.out Z4.out O4.out ?_)
    generalize hw4 : w3.alloc (.cells cs 30) = w4 at *
    clear hw4 k1 HRX
    by_cases hn0 : r.l.length = 0
    · have hnil : r.l = [] := List.length_eq_zero_iff.1 hn0
      rw [hn0] at k0
      have HEN : Hid (EE = if L.may = true then 0 else 3) := Lib.hid (by rw [← HEE.out, if_pos he]; simp [hnil])
      have HLN : Hid (LL = if L.may = true then L else LSt.zero) := Lib.hid (by rw [← HLL.out]; simp [hnil, he])
      clear hnil hn0 HEE HLL he
      go_wp2_with ((with_reducible show wpList _ _ _ _ _ _); refine wpList_load_rowG (o := ⟨some 20, _, _, _, _, _⟩) (by rfl) _ (.tmp 5) rfl (w3.heap.size) rfl _ _ _ _ Y4.out Try.underlying30 rfl I4.out ?_)
      refine (mayS S4.out).mono ?_
      rintro e w5 ⟨rfl, hb5⟩
      have X5 := Lib.hid ((hb5.block _ (Array.getElem?_eq_some_iff.1 X4.out).1).trans X4.out)
      have Y5 := Lib.hid ((hb5.block _ (Array.getElem?_eq_some_iff.1 Y4.out).1).trans Y4.out)
      have S5 := Lib.hid (S4.out.below hb5)
      have B5 := Lib.hid (B4.out.trans (hb5.mono B4.out.size))
      clear hb5 X4 Y4 S4 B4 k0
      cases hmy : L.may with
      | false =>
        have HE : Hid (EE = 3) := Lib.hid (by rw [HEN.out, hmy]; rfl)
        have HL : Hid (LL = LSt.zero) := Lib.hid (by rw [HLN.out, hmy]; rfl)
        clear hmy HEN HLN
        rw [HZS.out] at X5
        go_wp2_with ((with_reducible show wpList _ _ _ _ _ _); refine wpList_store_row rfl _ (.tmp 2) (.tmp 24) rfl (w.heap.size) #[.int .i64 0, .int .i64 0, .int .u32 0, .int .u32 0, .int .u32 0, .int .i64 0, .slice none 0 0, .int .u32 0, .int .i64 0, .slice none 0 0, .bool false, .int .u32 0, .int .u32 0, .int .i64 0, .int .i64 0, .int .i64 0, .slice none 0 0] rfl rfl _ _ X5.out (by kernel_rfl) (by rfl) (by simp [Value.oneCell']) ?_)
        have hrow : (w5.setRow w.heap.size #[.int .i64 0, .int .i64 0, .int .u32 0, .int .u32 0, .int .u32 0, .int .i64 0, .slice none 0 0, .int .u32 0, .int .i64 0, .slice none 0 0, .bool false, .int .u32 0, .int .u32 0, .int .i64 0, .int .i64 0, .int .i64 0, .slice none 0 0]).heap[w.heap.size]? = some (.cells #[.int .i64 0, .int .i64 0, .int .u32 0, .int .u32 0, .int .u32 0, .int .i64 0, .slice none 0 0, .int .u32 0, .int .i64 0, .slice none 0 0, .bool false, .int .u32 0, .int .u32 0, .int .i64 0, .int .i64 0, .int .i64 0, .slice none 0 0] 30 (0, 0)) := setRow_heap _ _ _ _ _ _ X5.out
        refine bodyPost_ret (results_cell_tmp_row rfl _ _ (w.heap.size) _ _ (0, 0) _ rfl hrow Try.underlying30 rfl (by kernel_rfl)) rfl ?_
        unfold ParseOk
        rw [HEE0.out, HLL0.out, HE.out, HL.out]
        exact ⟨_, rfl, Lib.hid (zero_is _ _), Lib.hid (below_setRow2 B5.out (Nat.le_refl _) _)⟩
      | true =>
        have HE : Hid (EE = 0) := Lib.hid (by rw [HEN.out, hmy]; rfl)
        have HL : Hid (LL = L) := Lib.hid (by rw [HLN.out, hmy]; rfl)
        clear hmy HEN HLN
        go_wp2_with (first
          | ((with_reducible show wpList _ _ _ _ _ _); refine wpList_load_row (o := ⟨some 25, _, _, _, _, _⟩) rfl _ (.tmp 5) rfl (w3.heap.size) rfl _ _ _ _ Y5.out Try.underlying30 rfl I4.out ?_)
          | ((with_reducible show wpList _ _ _ _ _ _); refine wpList_store_row rfl _ (.tmp 2) (.tmp 25) rfl (w.heap.size) cs rfl rfl _ _ X5.out I4.out Z4.out O4.out ?_))
        have hrow : (w5.setRow w.heap.size cs).heap[w.heap.size]? = some (.cells cs 30 (0, 0)) := setRow_heap _ _ _ _ _ _ X5.out
        refine bodyPost_ret (results_cell_tmp_row rfl _ _ (w.heap.size) _ _ (0, 0) _ rfl hrow Try.underlying30 rfl I4.out) rfl ?_
        unfold ParseOk
        rw [HEE0.out, HLL0.out, HE.out, HL.out]
        exact ⟨cs, rfl, Lib.hid ((S5.out.keep (by simp) fun b hb _ => setRow_other _ _ _ _ (by have := L13.out; have := HS1.out; omega)).imp fun b _ hb => by have := L13.out; have := HS1.out; omega), Lib.hid (below_setRow2 B5.out (Nat.le_refl _) _)⟩
    · have hnil : r.l ≠ [] := fun e => hn0 (by rw [e]; rfl)
      obtain ⟨nn, hnn⟩ : ∃ nn, r.l.length = nn := ⟨_, rfl⟩
      rw [hnn] at k0 hn0
      have qn : decide ((nn : Int) > 0) = true := by simp; omega
      have qn2 : (0 : Int) < (nn : Int) := by omega
      have qn3 : decide (0 < nn) = true := by simp; omega
      have qn4 : 0 < nn := by omega
      have HE : Hid (EE = 3) := Lib.hid (by rw [← HEE.out, if_pos he]; simp [hnil])
      have HL : Hid (LL = LSt.zero) := Lib.hid (by rw [← HLL.out]; simp [hnil])
      clear hnil hn0 HEE HLL he hnn
      rw [HZS.out] at X4
      go_wp2_with ((with_reducible show wpList _ _ _ _ _ _); refine wpList_store_row rfl _ (.tmp 2) (.tmp 24) rfl (w.heap.size) #[.int .i64 0, .int .i64 0, .int .u32 0, .int .u32 0, .int .u32 0, .int .i64 0, .slice none 0 0, .int .u32 0, .int .i64 0, .slice none 0 0, .bool false, .int .u32 0, .int .u32 0, .int .i64 0, .int .i64 0, .int .i64 0, .slice none 0 0] rfl rfl _ _ X4.out (by kernel_rfl) (by rfl) (by simp [Value.oneCell']) ?_)
      have hrow : (w4.setRow w.heap.size #[.int .i64 0, .int .i64 0, .int .u32 0, .int .u32 0, .int .u32 0, .int .i64 0, .slice none 0 0, .int .u32 0, .int .i64 0, .slice none 0 0, .bool false, .int .u32 0, .int .u32 0, .int .i64 0, .int .i64 0, .int .i64 0, .slice none 0 0]).heap[w.heap.size]? = some (.cells #[.int .i64 0, .int .i64 0, .int .u32 0, .int .u32 0, .int .u32 0, .int .i64 0, .slice none 0 0, .int .u32 0, .int .i64 0, .slice none 0 0, .bool false, .int .u32 0, .int .u32 0, .int .i64 0, .int .i64 0, .int .i64 0, .slice none 0 0] 30 (0, 0)) := setRow_heap _ _ _ _ _ _ X4.out
      refine bodyPost_ret (results_cell_tmp_row rfl _ _ (w.heap.size) _ _ (0, 0) _ rfl hrow Try.underlying30 rfl (by kernel_rfl)) rfl ?_
      unfold ParseOk
      rw [HEE0.out, HLL0.out, HE.out, HL.out]
      exact ⟨_, rfl, Lib.hid (zero_is _ _), Lib.hid (below_setRow2 B4.out (Nat.le_refl _) _)⟩
  · have q : ((r.e : Int) != 0) = true := by simp [he]
    have hE : EE = r.e := by rw [← HEE.out, if_neg he]
    have hL : LL = LSt.zero := by rw [← HLL.out, if_neg (fun h => he h.1)]
    have HE := Lib.hid hE
    have HL := Lib.hid hL
    clear he hE hL HEE HLL
    go_upto_region 4 with ((with_reducible show wpList _ _ _ _ _ _); refine wpList_store_new rfl rfl _ (.tmp 5) (.tmp 8) rfl _ _ cs _ rfl rfl I4.out Z4.out O4.out ?_)
    generalize hw4 : w3.alloc (.cells cs 30) = w4 at *
    obtain ⟨RC, hRC⟩ : ∃ RC, #[Value.slice A' r.l.length c', .int .i64 r.e] = RC := ⟨_, rfl⟩
    have BXR : Hid (BoxS (w.heap.size + 1) RC 58 w4) := Lib.hid (by rw [← hRC]; exact HRX.out)
    have HC : Hid (∀ W, BoxS (w.heap.size + 1) RC 58 W → W.cell? ⟨w.heap.size + 1, 1, none⟩ = some (.int .i64 r.e)) := Lib.hid fun W hW => by rw [cell_of_row W _ 1 _ _ (0, 0) hW, ← hRC]; rfl
    have XD : Hid (w4.drew.heap[w.heap.size]? = some (.cells zState 30 (0, 0))) := Lib.hid X4.out
    have HBL : Hid (Below w.heap.size w w4.drew) := Lib.hid B4.out.drew
    clear hRC hw4 k0 k1 HRX
    go_cut [3] (fun s3 wx => s3 = .int .i64 r.e ∧ Hid (wx = w4.drew.setRow w.heap.size zState))
    case first =>
      refine wp_region_noPanic ?_
      refine wp_region_held_drew (S := (fun W => BoxS (w.heap.size + 1) RC 58 W)) (by kernel_rfl) (BXR.out : BoxS _ _ _ w4.drew) (fun hH0 => ?_)
      have hH0 : BoxS (w.heap.size + 1) RC 58 w4.drew := hH0
      generalize w4.drew = wd3000 at *
      refine wpAnyH_take (i := 0) (oi := { dst := some 12, op := Op.build 30 #[], type := 30, pos := "state.go:87", after := #[], guard := none }) (v := ?tkv3001) rfl (by kernel_rfl) (by kernel_rfl) (by kernel_rfl) (fun _ _ _ h => h) (Or.inl ⟨by rfl, ?tky3001⟩) hH0 ?tkr3001
      case tky3001 => (intro w' hSw; clear hSw; go_simp; try with_reducible rfl)
      try simp only [Act.put, List.setIfInBounds_toArray, List.set_cons_zero, List.set_cons_succ]
      refine wpAnyH_take (i := 1) (oi := { dst := some 13, op := Op.fieldAddr 58 (Operand.tmp 4) 1, type := 0, pos := "state.go:87", after := #[{ on := 3, ground := Ground.gcOnly Departure.lateStores }], guard := none }) (v := ?tkv3002) rfl (by kernel_rfl) (by kernel_rfl) (by kernel_rfl) (fun _ _ _ h => h) (Or.inl ⟨by rfl, ?tky3002⟩) hH0 ?tkr3002
      case tky3002 => (intro w' hSw; clear hSw; go_simp; try with_reducible rfl)
      try simp only [Act.put, List.setIfInBounds_toArray, List.set_cons_zero, List.set_cons_succ]
      refine wpAnyH_take (i := 2) (oi := { dst := some 14, op := Op.load 33 (Operand.tmp 13), type := 33, pos := "state.go:87", after := #[{ on := 1, ground := Ground.data }, { on := 3, ground := Ground.gcOnly Departure.lateStores }], guard := none }) (v := ?tkv3003) rfl (by kernel_rfl) (by kernel_rfl) (by kernel_rfl) (fun _ _ _ h => h) (Or.inl ⟨by rfl, ?tky3003⟩) hH0 ?tkr3003
      case tky3003 => (intro w' hSw; have z0 := HC.out _ hSw; clear hSw; go_simp; try with_reducible rfl)
      try simp only [Act.put, List.setIfInBounds_toArray, List.set_cons_zero, List.set_cons_succ]
      refine wpAnyH_ready (rs := [3]) (by kernel_rfl) (by simp) ?_
      refine AllReadyH.cons (o := { dst := none, op := Op.store 30 (Operand.tmp 2) (Operand.tmp 12), type := 0, pos := "state.go:87", after := #[{ on := 0, ground := Ground.data }, { on := 0, ground := Ground.phase }, { on := 1, ground := Ground.textOnly Departure.lateStores }, { on := 2, ground := Ground.textOnly Departure.lateStores }], guard := none }) rfl (fun K hK => ?_) AllReadyH.nil
      rw [if_pos (by rfl)]
      refine wp_store_row _ _ _ rfl (w.heap.size) zState rfl rfl _ _ XD.out (by kernel_rfl) (by rfl) (by kernel_rfl) ?_
      have hS3004 : BoxS (w.heap.size + 1) RC 58 (wd3000.setRow w.heap.size zState) := (BoxS.setRow (hH0) (by omega) _)
      refine hK.out _ _ hS3004 (fun hH3004 => ?_)
      have hH3004 : BoxS (w.heap.size + 1) RC 58 (wd3000.setRow w.heap.size zState) := hH3004
      clear hK K hS3004
      refine wpAnyH_take (i := 4) (oi := { dst := some 3, op := Op.assign (Operand.tmp 14), type := 33, pos := "state.go:87", after := #[{ on := 2, ground := Ground.data }, { on := 3, ground := Ground.chain }, { on := 0, ground := Ground.phase }, { on := 1, ground := Ground.phase }, { on := 2, ground := Ground.phase }, { on := 3, ground := Ground.phase }], guard := none }) (v := ?tkv3005) rfl (by kernel_rfl) (by kernel_rfl) (by kernel_rfl) (fun _ _ _ h => h) (Or.inl ⟨by rfl, ?tky3005⟩) hH3004 ?tkr3005
      case tky3005 => (intro w' hSw; clear hSw; go_simp; try with_reducible rfl)
      try simp only [Act.put, List.setIfInBounds_toArray, List.set_cons_zero, List.set_cons_succ]
      refine wpAnyH_done (by kernel_rfl) ?_ _
      refine NoPanic.normal ?_
      go_wp2_with fail
      go_meet
      exact ⟨rfl, Lib.hid rfl⟩
    case rest =>
      obtain ⟨rfl, hwx⟩ := hcut
      go_wp2_with fail
      rw [hwx.out]
      have hrow : (w4.drew.setRow w.heap.size zState).heap[w.heap.size]? = some (.cells zState 30 (0, 0)) := setRow_heap _ _ _ _ _ _ XD.out
      refine bodyPost_ret (results_cell_tmp_row rfl _ _ (w.heap.size) _ _ (0, 0) _ rfl hrow Try.underlying30 rfl (by kernel_rfl)) rfl ?_
      unfold ParseOk
      rw [HEE0.out, HLL0.out, HE.out, HL.out]
      exact ⟨zState, rfl, Lib.hid (zero_is _ _), Lib.hid (below_setRow2 HBL.out (Nat.le_refl _) _)⟩
end
section
open Go.RowKit
theorem bytesS_yes {cs : Array Value} {L : LSt} {w : World} {P : Nat → Prop} (h : IsSt w P cs L) (hm : L.may = true) (hw : L.w32) :
    Calls Try.prog 7 #[.agg cs] w (BytesOk L.bytes w) := by
  obtain ⟨A0, c0, A1, c1, A, c, rfl, r0, r1, r2⟩ := h
  obtain ⟨hok, ha, ht1, ht2⟩ := may_ok hm hw
  obtain ⟨act, trial, flo, gen, v0, l0, h0, v1, l1, h1, on, m⟩ := L
  simp only at ha ht1 ht2
  obtain ⟨a, rfl⟩ : ∃ a : Nat, act = a := ⟨act.toNat, by omega⟩
  obtain ⟨tr, rfl⟩ : ∃ a : Nat, trial = a := ⟨trial.toNat, by omega⟩
  exact bytesS_ex a tr flo gen v0 v1 l0 l1 h0 h1 on m A0 A1 A c0 c1 c w hm hw r0.row r1.row r2.row
theorem parse_bytes {L : LSt} (hm : L.may = true) (hw : L.w32) : parseE L.bytes = 0 ∧ parseL L.bytes = L := by
  have h := state_codec.fwd L [] (may_ok hm hw).1
  rw [List.append_nil] at h
  unfold parseE parseL
  rw [h]
  simp [hm]
theorem parse_more {L : LSt} (hm : L.may = true) (hw : L.w32) (x : UInt8) : parseE (L.bytes ++ [x]) = 3 := by
  have h := state_codec.fwd L [x] (may_ok hm hw).1
  unfold parseE
  rw [h]
  simp
theorem parse_cut {L : LSt} (hm : L.may = true) (hw : L.w32) {k : Nat} (hk : k < L.bytes.length) : parseE (L.bytes.take k) = 2 := by
  have h := state_codec.cut L (L.bytes.take k) (L.bytes.drop k) (may_ok hm hw).1 (List.take_append_drop k _).symm (fun e => by
    have := congrArg List.length e
    simp at this
    omega)
  unfold parseE
  rw [h]
  simp
def firstL0 : LSt := ⟨0, 0, 0, 0, 1, 3, n32, 0, 0, [], false, LMan.zero⟩
theorem firstL_may : firstL0.may = true := by decide +kernel
theorem firstL_w32 : firstL0.w32 := by unfold LSt.w32; decide +kernel
theorem firstL_len : firstL0.bytes.length = 51 := by decide +kernel
theorem firstS (w : World) : Calls Try.prog 20 #[] w (RetS firstL0 w) :=
  (first_any w).mono fun _ _ ⟨A, c, he, hr, hb⟩ => ⟨_, he, Lib.hid ⟨A, c, none, 0, none, 0, rfl, .of_f hr.out, .nil _ _ _, .nil _ _ _⟩, hb⟩
set_option maxRecDepth 100000 in
set_option maxHeartbeats 3200000 in
theorem awake19_any (w : World) : Calls Try.prog 6 #[] w fun e w' => e = .returned (.bool true) ∧ Below w.heap.size w w' := by
  go_enter Try.func6, Try.ntmps6
  go_wp2_with fail
  refine (firstS w).mono ?_
  rintro e w1 ⟨c1, rfl, S1, hb1⟩
  have B1 := Lib.hid hb1.out
  clear hb1
  go_wp2_with fail
  refine (bytesS_yes S1.out firstL_may firstL_w32).mono ?_
  rintro e w2 ⟨A2, n2, c2, rfl, hn2, O2, hb2⟩
  have e2 : n2 = 51 := by rw [hn2.out]; exact firstL_len
  subst e2
  have B2 := Lib.hid (B1.out.trans (hb2.out.mono B1.out.size))
  have R2 := Lib.hid (Row.of_own O2.out)
  have C2 := Lib.hid (own_cap O2.out)
  clear hb2 hn2 S1 B1 O2
  go_wp2_with fail
  refine (parse_any A2 51 c2 _ w2 R2.out C2.out.1 C2.out.2).mono ?_
  rintro e w3 ⟨c5, rfl, s5, hb3⟩
  rw [(parse_bytes firstL_may firstL_w32).1]
  have S5 : Hid (IsSt w3 (fun b => w2.heap.size ≤ b) c5 firstL0) := Lib.hid (by have := s5.out; rwa [(parse_bytes firstL_may firstL_w32).2] at this)
  have EC := Lib.hid (((((Env.start w).below B2.out).below hb3.out).addSt S5.out).alloc c5 30)
  have I5 := Lib.hid S5.out.inf
  have O5 := Lib.hid S5.out.one
  have Z5 : Hid (17 = c5.size) := Lib.hid S5.out.size.symm
  clear s5 hb3 S5 B2 R2 C2
  go_upto_region 3 with ((with_reducible show wpList _ _ _ _ _ _); refine wpList_store_new rfl rfl _ (.tmp 3) (.tmp 13) rfl _ _ c5 _ rfl rfl I5.out Z5.out O5.out ?_)
  generalize w3.alloc (.cells c5 30) = wC at *
  have HE : Hid (∀ W, Below wC.heap.size wC W → Env w W [(w3.heap.size, c5, 30)] [(c5, firstL0)] []) := Lib.hid fun W hW => EC.out.below hW
  clear EC
  refine wp_region_noPanic ?_
  refine wp_region_held_drew (S := (fun W => Below (wC.heap.size) wC W)) (by kernel_rfl) (Below.refl _ _).drew (fun hH0 => ?_)
  have hH0 : Below (wC.heap.size) wC wC.drew := hH0
  generalize wC.drew = wd3000 at *
  refine wpAnyH_take (i := 0) (oi := { dst := some 15, op := Op.move (Operand.tmp 2), type := 33, pos := "law.go:19", after := #[], guard := none }) (v := ?tkv3001) rfl (by kernel_rfl) (by kernel_rfl) (by kernel_rfl) (fun _ _ _ h => h) (Or.inl ⟨by rfl, ?tky3001⟩) hH0 ?tkr3001
  case tky3001 => (intro w' hSw; clear hSw; go_simp; try with_reducible rfl)
  try simp only [Act.put, List.setIfInBounds_toArray, List.set_cons_zero, List.set_cons_succ]
  refine wpAnyH_take (i := 1) (oi := { dst := some 16, op := Op.binOp BinOp.eql 33 (Operand.tmp 15) (Operand.const (Value.int IntKind.i64 0)) 33, type := 4, pos := "law.go:19", after := #[{ on := 0, ground := Ground.data }], guard := none }) (v := ?tkv3002) rfl (by kernel_rfl) (by kernel_rfl) (by kernel_rfl) (fun _ _ _ h => h) (Or.inl ⟨by rfl, ?tky3002⟩) hH0 ?tkr3002
  case tky3002 => (intro w' hSw; clear hSw; go_simp; try with_reducible rfl)
  try simp only [Act.put, List.setIfInBounds_toArray, List.set_cons_zero, List.set_cons_succ]
  refine wpAnyH_take (i := 2) (oi := { dst := some 17, op := Op.move (Operand.tmp 16), type := 4, pos := "law.go:19", after := #[{ on := 1, ground := Ground.data }], guard := none }) (v := ?tkv3003) rfl (by kernel_rfl) (by kernel_rfl) (by kernel_rfl) (fun _ _ _ h => h) (Or.inl ⟨by rfl, ?tky3003⟩) hH0 ?tkr3003
  case tky3003 => (intro w' hSw; clear hSw; go_simp; try with_reducible rfl)
  try simp only [Act.put, List.setIfInBounds_toArray, List.set_cons_zero, List.set_cons_succ]
  refine wpAnyH_take (i := 3) (oi := { dst := some 18, op := Op.move (Operand.tmp 1), type := 23, pos := "law.go:19", after := #[{ on := 2, ground := Ground.guard }], guard := some (2, true) }) (v := ?tkv3004) rfl (by kernel_rfl) (by kernel_rfl) (by kernel_rfl) (fun _ _ _ h => h) (Or.inl ⟨by rfl, ?tky3004⟩) hH0 ?tkr3004
  case tky3004 => (intro w' hSw; clear hSw; go_simp; try with_reducible rfl)
  try simp only [Act.put, List.setIfInBounds_toArray, List.set_cons_zero, List.set_cons_succ]
  refine wpAnyH_take (i := 4) (oi := { dst := some 19, op := Op.call { callee := Callee.builtin Builtin.len, args := #[Operand.tmp 18], argTypes := #[23] }, type := 3, pos := "law.go:19", after := #[{ on := 3, ground := Ground.data }, { on := 2, ground := Ground.guard }], guard := some (2, true) }) (v := ?tkv3005) rfl (by kernel_rfl) (by kernel_rfl) (by kernel_rfl) (fun _ _ _ h => h) (Or.inl ⟨by rfl, ?tky3005⟩) hH0 ?tkr3005
  case tky3005 => (intro w' hSw; clear hSw; go_simp; try with_reducible rfl)
  try simp only [Act.put, List.setIfInBounds_toArray, List.set_cons_zero, List.set_cons_succ]
  refine wpAnyH_take (i := 5) (oi := { dst := some 20, op := Op.binOp BinOp.eql 3 (Operand.tmp 19) (Operand.const (Value.int IntKind.i64 51)) 3, type := 4, pos := "law.go:19", after := #[{ on := 4, ground := Ground.data }, { on := 2, ground := Ground.guard }], guard := some (2, true) }) (v := ?tkv3006) rfl (by kernel_rfl) (by kernel_rfl) (by kernel_rfl) (fun _ _ _ h => h) (Or.inl ⟨by rfl, ?tky3006⟩) hH0 ?tkr3006
  case tky3006 => (intro w' hSw; clear hSw; go_simp; try with_reducible rfl)
  try simp only [Act.put, List.setIfInBounds_toArray, List.set_cons_zero, List.set_cons_succ]
  refine wpAnyH_take (i := 6) (oi := { dst := some 21, op := Op.pick (Operand.tmp 17) (Operand.tmp 20) (Operand.const (Value.bool false)), type := 4, pos := "law.go:19", after := #[{ on := 2, ground := Ground.data }, { on := 5, ground := Ground.data }], guard := none }) (v := ?tkv3007) rfl (by kernel_rfl) (by kernel_rfl) (by kernel_rfl) (fun _ _ _ h => h) (Or.inl ⟨by rfl, ?tky3007⟩) hH0 ?tkr3007
  case tky3007 => (intro w' hSw; clear hSw; go_simp; try with_reducible rfl)
  try simp only [Act.put, List.setIfInBounds_toArray, List.set_cons_zero, List.set_cons_succ]
  refine wpAnyH_take (i := 7) (oi := { dst := some 22, op := Op.move (Operand.tmp 21), type := 4, pos := "law.go:19", after := #[{ on := 6, ground := Ground.data }, { on := 2, ground := Ground.chain }], guard := none }) (v := ?tkv3008) rfl (by kernel_rfl) (by kernel_rfl) (by kernel_rfl) (fun _ _ _ h => h) (Or.inl ⟨by rfl, ?tky3008⟩) hH0 ?tkr3008
  case tky3008 => (intro w' hSw; clear hSw; go_simp; try with_reducible rfl)
  try simp only [Act.put, List.setIfInBounds_toArray, List.set_cons_zero, List.set_cons_succ]
  refine wpAnyH_take (i := 8) (oi := { dst := some 23, op := Op.move (Operand.tmp 4), type := 33, pos := "law.go:19", after := #[{ on := 7, ground := Ground.guard }], guard := some (7, true) }) (v := ?tkv3009) rfl (by kernel_rfl) (by kernel_rfl) (by kernel_rfl) (fun _ _ _ h => h) (Or.inl ⟨by rfl, ?tky3009⟩) hH0 ?tkr3009
  case tky3009 => (intro w' hSw; clear hSw; go_simp; try with_reducible rfl)
  try simp only [Act.put, List.setIfInBounds_toArray, List.set_cons_zero, List.set_cons_succ]
  refine wpAnyH_take (i := 9) (oi := { dst := some 24, op := Op.binOp BinOp.eql 33 (Operand.tmp 23) (Operand.const (Value.int IntKind.i64 0)) 33, type := 4, pos := "law.go:19", after := #[{ on := 8, ground := Ground.data }, { on := 7, ground := Ground.guard }], guard := some (7, true) }) (v := ?tkv3010) rfl (by kernel_rfl) (by kernel_rfl) (by kernel_rfl) (fun _ _ _ h => h) (Or.inl ⟨by rfl, ?tky3010⟩) hH0 ?tkr3010
  case tky3010 => (intro w' hSw; clear hSw; go_simp; try with_reducible rfl)
  try simp only [Act.put, List.setIfInBounds_toArray, List.set_cons_zero, List.set_cons_succ]
  refine wpAnyH_take (i := 10) (oi := { dst := some 25, op := Op.pick (Operand.tmp 22) (Operand.tmp 24) (Operand.const (Value.bool false)), type := 4, pos := "law.go:19", after := #[{ on := 7, ground := Ground.data }, { on := 9, ground := Ground.data }], guard := none }) (v := ?tkv3011) rfl (by kernel_rfl) (by kernel_rfl) (by kernel_rfl) (fun _ _ _ h => h) (Or.inl ⟨by rfl, ?tky3011⟩) hH0 ?tkr3011
  case tky3011 => (intro w' hSw; clear hSw; go_simp; try with_reducible rfl)
  try simp only [Act.put, List.setIfInBounds_toArray, List.set_cons_zero, List.set_cons_succ]
  refine wpAnyH_take (i := 11) (oi := { dst := some 26, op := Op.move (Operand.tmp 25), type := 4, pos := "law.go:19", after := #[{ on := 10, ground := Ground.data }, { on := 7, ground := Ground.chain }], guard := none }) (v := ?tkv3012) rfl (by kernel_rfl) (by kernel_rfl) (by kernel_rfl) (fun _ _ _ h => h) (Or.inl ⟨by rfl, ?tky3012⟩) hH0 ?tkr3012
  case tky3012 => (intro w' hSw; clear hSw; go_simp; try with_reducible rfl)
  try simp only [Act.put, List.setIfInBounds_toArray, List.set_cons_zero, List.set_cons_succ]
  refine wpAnyH_take (i := 12) (oi := { dst := some 27, op := Op.load 30 (Operand.tmp 3), type := 30, pos := "law.go:19", after := #[{ on := 11, ground := Ground.guard }], guard := some (11, true) }) (v := .agg c5) rfl (by kernel_rfl) (by kernel_rfl) (by kernel_rfl) (fun _ _ _ h => h) (yields_row (by rfl) _ _ rfl (w3.heap.size) rfl _ _ _ _ (fun W hW => (HE.out W hW).bx _ _ _ (.head _)) Try.underlying30 rfl I5.out) hH0 ?tkr3013
  try simp only [Act.put, List.setIfInBounds_toArray, List.set_cons_zero, List.set_cons_succ]
  refine wpAnyH_ready (rs := [13]) (by kernel_rfl) (by simp) ?_
  refine AllReadyH.cons (o := { dst := some 28, op := Op.call { callee := Callee.value (Operand.func 20), args := #[], argTypes := #[] }, type := 30, pos := "law.go:19", after := #[{ on := 11, ground := Ground.chain }, { on := 11, ground := Ground.guard }], guard := some (11, true) }) rfl (fun K hK => ?_) AllReadyH.nil
  go_simp
  refine (firstS wd3000).mono ?_
  rintro e' wn3014 ⟨cf3014, rfl, sf3014, hbo3014⟩
  have hb3014 := hbo3014.out
  have SF3014_ := Lib.hid sf3014.out
  clear hbo3014 sf3014
  go_simp
  have hS3014 : Below (wC.heap.size) wC wn3014 := (hH0).trans (hb3014.mono (hH0).size)
  refine hK.out _ _ hS3014 (fun hH3014 => ?_)
  have hH3014 : Below (wC.heap.size) wC wn3014 := hH3014
  clear hK K hS3014
  try simp only [Act.put, List.setIfInBounds_toArray, List.set_cons_zero, List.set_cons_succ]
  refine wpAnyH_ready (rs := [14]) (by kernel_rfl) (by simp) ?_
  refine AllReadyH.cons (o := { dst := some 29, op := Op.call { callee := Callee.value (Operand.func 11), args := #[Operand.tmp 27, Operand.tmp 28], argTypes := #[30, 30] }, type := 4, pos := "law.go:19", after := #[{ on := 12, ground := Ground.data }, { on := 13, ground := Ground.data }, { on := 13, ground := Ground.chain }, { on := 11, ground := Ground.guard }], guard := some (11, true) }) rfl (fun K hK => ?_) AllReadyH.nil
  go_simp
  refine (sameS ((HE.out wn3014 (hH3014)).st _ _ (.head _)) (SF3014_.out)).mono ?_
  rintro e' wn3015 ⟨rfl, hb3015⟩
  rw [eqb_refl]
  go_simp
  have SF3014_3015 := Lib.hid (SF3014_.out.below hb3015)
  have hS3015 : Below (wC.heap.size) wC wn3015 := (hH3014).trans (hb3015.mono (hH3014).size)
  refine hK.out _ _ hS3015 (fun hH3015 => ?_)
  have hH3015 : Below (wC.heap.size) wC wn3015 := hH3015
  clear hK K hS3015
  try simp only [Act.put, List.setIfInBounds_toArray, List.set_cons_zero, List.set_cons_succ]
  refine wpAnyH_take (i := 15) (oi := { dst := some 30, op := Op.pick (Operand.tmp 26) (Operand.tmp 29) (Operand.const (Value.bool false)), type := 4, pos := "law.go:19", after := #[{ on := 11, ground := Ground.data }, { on := 14, ground := Ground.data }], guard := none }) (v := ?tkv3016) rfl (by kernel_rfl) (by kernel_rfl) (by kernel_rfl) (fun _ _ _ h => h) (Or.inl ⟨by rfl, ?tky3016⟩) hH3015 ?tkr3016
  case tky3016 => (intro w' hSw; clear hSw; go_simp; try with_reducible rfl)
  try simp only [Act.put, List.setIfInBounds_toArray, List.set_cons_zero, List.set_cons_succ]
  refine wpAnyH_take (i := 16) (oi := { dst := some 0, op := Op.assign (Operand.tmp 30), type := 4, pos := "law.go:19", after := #[{ on := 15, ground := Ground.data }, { on := 14, ground := Ground.chain }, { on := 0, ground := Ground.phase }, { on := 1, ground := Ground.phase }, { on := 2, ground := Ground.phase }, { on := 3, ground := Ground.phase }, { on := 4, ground := Ground.phase }, { on := 5, ground := Ground.phase }, { on := 6, ground := Ground.phase }, { on := 7, ground := Ground.phase }, { on := 8, ground := Ground.phase }, { on := 9, ground := Ground.phase }, { on := 10, ground := Ground.phase }, { on := 11, ground := Ground.phase }, { on := 12, ground := Ground.phase }, { on := 13, ground := Ground.phase }, { on := 14, ground := Ground.phase }, { on := 15, ground := Ground.phase }], guard := none }) (v := ?tkv3017) rfl (by kernel_rfl) (by kernel_rfl) (by kernel_rfl) (fun _ _ _ h => h) (Or.inl ⟨by rfl, ?tky3017⟩) hH3015 ?tkr3017
  case tky3017 => (intro w' hSw; clear hSw; go_simp; try with_reducible rfl)
  try simp only [Act.put, List.setIfInBounds_toArray, List.set_cons_zero, List.set_cons_succ]
  refine wpAnyH_done (by kernel_rfl) ?_ _
  refine NoPanic.normal ?_
  have HEND := Lib.hid ((HE.out _ (hH3015)).b)
  go_wp2_with fail
  go_ret
  exact ⟨rfl, HEND.out⟩
end
section
open Go.RowKit
/-- the length of what is told of the first k slots -/
def lenN : Nat → LSt → Nat
  | 0, _ => 13
  | 1, L => 13 + if 0 < L.h0.length then 38 else 0
  | _, L => (13 + if 0 < L.h0.length then 38 else 0) + if 0 < L.h1.length then 38 else 0
theorem slot_len {S : LSlot} (h : S.ok) : S.bytes.length = 1 + if 0 < S.h.length then 38 else 0 := by
  rcases h with rfl | h
  · rfl
  · unfold LSlot.bytes
    rw [LSlot.full_not h]
    simp [CrcM.four, h.2.2.2]
theorem bytes_length {L : LSt} (hm : L.may = true) (hw : L.w32) : L.bytes.length = lenN 2 L + if L.on then 44 else 0 := by
  obtain ⟨h1, h2, h3, h4, h5, h6, h7, h8, h9⟩ := (may_ok hm hw).1
  have e0 : L.s0.bytes.length = 1 + if 0 < L.h0.length then 38 else 0 := slot_len h7
  have e1 : L.s1.bytes.length = 1 + if 0 < L.h1.length then 38 else 0 := slot_len h8
  have ez : (if L.on then 1 :: L.m.bytes else [0] : List UInt8).length = 1 + if L.on then 44 else 0 := by
    cases ho : L.on with
    | false => rfl
    | true =>
      have : L.m.ok := by unfold nowOk at h9; rw [ho] at h9; exact h9
      simp [bytes_len, may_32 this.1]
  unfold LSt.bytes
  simp only [List.length_append, ez, e0, e1, CrcM.four, List.length_cons, List.length_nil, lenN]
  omega
end
section
open Go.RowKit
set_option maxRecDepth 100000 in
set_option maxHeartbeats 3200000 in
theorem rsameS {w : World} {P Q : Nat → Prop} {cs ds : Array Value} {L K : LSt} (hl : IsSt w P cs L) (hk : IsSt w Q ds K) :
    Calls Try.prog 12 #[.agg cs, .agg ds] w (SameOk (L.eqb K) w) := by
  obtain ⟨LA0, Lc0, LA1, Lc1, LA, Lc, rfl, l0, l1, l2⟩ := hl
  obtain ⟨KA0, Kc0, KA1, Kc1, KA, Kc, rfl, k0, k1, k2⟩ := hk
  have hx := heap_alloc2_old w (.cells (L.cells LA0 Lc0 LA1 Lc1 LA Lc) 30) (.cells (K.cells KA0 Kc0 KA1 Kc1 KA Kc) 30)
  have hy := heap_alloc2_new w (.cells (L.cells LA0 Lc0 LA1 Lc1 LA Lc) 30) (.cells (K.cells KA0 Kc0 KA1 Kc1 KA Kc) 30)
  have hb : Below w.heap.size w ((w.alloc (.cells (L.cells LA0 Lc0 LA1 Lc1 LA Lc) 30)).alloc (.cells (K.cells KA0 Kc0 KA1 Kc1 KA Kc) 30)) := ((Below.refl _ _).alloc (Nat.le_refl _) _).alloc (by simp) _
  have HL := Lib.hid (And.intro (Array.getElem?_eq_some_iff.1 hx).1 hx)
  have HK := Lib.hid (And.intro (Array.getElem?_eq_some_iff.1 hy).1 hy)
  have HB := Lib.hid hb
  have L0 := Lib.hid l0
  have L1 := Lib.hid l1
  have L2 := Lib.hid l2
  have K0 := Lib.hid k0
  have K1 := Lib.hid k1
  have K2 := Lib.hid k2
  clear hx hy hb l0 l1 l2 k0 k1 k2
  obtain ⟨B, hB⟩ : ∃ B, L.eqb K = B := ⟨_, rfl⟩
  rw [hB]
  have HE := Lib.hid hB
  clear hB
  unfold LSt.eqb at HE
  go_enter Try.func12, Try.ntmps12
  go_upto_region 1 with fail
  generalize ((w.alloc (.cells (L.cells LA0 Lc0 LA1 Lc1 LA Lc) 30)).alloc (.cells (K.cells KA0 Kc0 KA1 Kc1 KA Kc) 30)) = w1 at *
  have xL := ((Below.refl w1.heap.size w1).block w.heap.size HL.out.1).trans HL.out.2
  have cL0 : w1.cell? ⟨w.heap.size, 0, none⟩ = some (.int .i64 L.act) := by rw [cell_of_row w1 _ 0 _ _ (0, 0) xL]; rfl
  have cL1 : w1.cell? ⟨w.heap.size, 1, none⟩ = some (.int .i64 L.trial) := by rw [cell_of_row w1 _ 1 _ _ (0, 0) xL]; rfl
  have cL2 : w1.cell? ⟨w.heap.size, 2, none⟩ = some (.int .u32 (L.flo : Int)) := by rw [cell_of_row w1 _ 2 _ _ (0, 0) xL]; rfl
  have cL3 : w1.cell? ⟨w.heap.size, 3, none⟩ = some (.int .u32 (L.gen : Int)) := by rw [cell_of_row w1 _ 3 _ _ (0, 0) xL]; rfl
  have cL4 : w1.cell? ⟨w.heap.size, 4, none⟩ = some (.int .u32 (L.v0 : Int)) := by rw [cell_of_row w1 _ 4 _ _ (0, 0) xL]; rfl
  have cL5 : w1.cell? ⟨w.heap.size, 5, none⟩ = some (.int .i64 L.l0) := by rw [cell_of_row w1 _ 5 _ _ (0, 0) xL]; rfl
  have cL6 : w1.cell? ⟨w.heap.size, 6, none⟩ = some (.slice LA0 L.h0.length Lc0) := by rw [cell_of_row w1 _ 6 _ _ (0, 0) xL]; rfl
  clear xL
  have xK := ((Below.refl w1.heap.size w1).block (w.heap.size + 1) HK.out.1).trans HK.out.2
  have cK0 : w1.cell? ⟨(w.heap.size + 1), 0, none⟩ = some (.int .i64 K.act) := by rw [cell_of_row w1 _ 0 _ _ (0, 0) xK]; rfl
  have cK1 : w1.cell? ⟨(w.heap.size + 1), 1, none⟩ = some (.int .i64 K.trial) := by rw [cell_of_row w1 _ 1 _ _ (0, 0) xK]; rfl
  have cK2 : w1.cell? ⟨(w.heap.size + 1), 2, none⟩ = some (.int .u32 (K.flo : Int)) := by rw [cell_of_row w1 _ 2 _ _ (0, 0) xK]; rfl
  have cK3 : w1.cell? ⟨(w.heap.size + 1), 3, none⟩ = some (.int .u32 (K.gen : Int)) := by rw [cell_of_row w1 _ 3 _ _ (0, 0) xK]; rfl
  have cK4 : w1.cell? ⟨(w.heap.size + 1), 4, none⟩ = some (.int .u32 (K.v0 : Int)) := by rw [cell_of_row w1 _ 4 _ _ (0, 0) xK]; rfl
  have cK5 : w1.cell? ⟨(w.heap.size + 1), 5, none⟩ = some (.int .i64 K.l0) := by rw [cell_of_row w1 _ 5 _ _ (0, 0) xK]; rfl
  have cK6 : w1.cell? ⟨(w.heap.size + 1), 6, none⟩ = some (.slice KA0 K.h0.length Kc0) := by rw [cell_of_row w1 _ 6 _ _ (0, 0) xK]; rfl
  clear xK
  by_cases e0 : L.act = K.act
  case neg =>
    have q0 : ((L.act : Int) == (K.act : Int)) = false := by simp; omega
    have hbf : B = false := by rw [← HE.out]; simp [e0]
    subst hbf
    go_wp2_with fail
    go_ret
    exact ⟨rfl, HB.out⟩
  have q0 : ((L.act : Int) == (K.act : Int)) = true := by simp; omega
  by_cases e1 : L.trial = K.trial
  case neg =>
    have q1 : ((L.trial : Int) == (K.trial : Int)) = false := by simp; omega
    have hbf : B = false := by rw [← HE.out]; simp [e1]
    subst hbf
    go_wp2_with fail
    go_ret
    exact ⟨rfl, HB.out⟩
  have q1 : ((L.trial : Int) == (K.trial : Int)) = true := by simp; omega
  by_cases e2 : L.flo = K.flo
  case neg =>
    have q2 : ((L.flo : Int) == (K.flo : Int)) = false := by simp; omega
    have hbf : B = false := by rw [← HE.out]; simp [e2]
    subst hbf
    go_wp2_with fail
    go_ret
    exact ⟨rfl, HB.out⟩
  have q2 : ((L.flo : Int) == (K.flo : Int)) = true := by simp; omega
  by_cases e3 : L.gen = K.gen
  case neg =>
    have q3 : ((L.gen : Int) == (K.gen : Int)) = false := by simp; omega
    have hbf : B = false := by rw [← HE.out]; simp [e3]
    subst hbf
    go_wp2_with fail
    go_ret
    exact ⟨rfl, HB.out⟩
  have q3 : ((L.gen : Int) == (K.gen : Int)) = true := by simp; omega
  go_wp2_with fail
  refine (rslotSame_any L.v0 K.v0 L.l0 K.l0 w1.heap.size L.h0.length Lc0 K.h0.length Kc0 LA0 KA0 L.h0 K.h0 w1 ((L0.out.row.below HB.out).more HB.out.size) ((K0.out.row.below HB.out).more HB.out.size) (Nat.le_refl _)).mono ?_
  rintro e w2 ⟨b, rfl, hbb, hb2⟩
  have HB2 := Lib.hid (HB.out.trans (hb2.mono HB.out.size))
  have H12 := Lib.hid hb2
  have HBB := Lib.hid hbb.out
  clear cL0 cL1 cL2 cL3 cL4 cL5 cL6 cK0 cK1 cK2 cK3 cK4 cK5 cK6
  clear hbb hb2
  have xL := (H12.out.block w.heap.size HL.out.1).trans HL.out.2
  have cL7 : w2.cell? ⟨w.heap.size, 7, none⟩ = some (.int .u32 (L.v1 : Int)) := by rw [cell_of_row w2 _ 7 _ _ (0, 0) xL]; rfl
  have cL8 : w2.cell? ⟨w.heap.size, 8, none⟩ = some (.int .i64 L.l1) := by rw [cell_of_row w2 _ 8 _ _ (0, 0) xL]; rfl
  have cL9 : w2.cell? ⟨w.heap.size, 9, none⟩ = some (.slice LA1 L.h1.length Lc1) := by rw [cell_of_row w2 _ 9 _ _ (0, 0) xL]; rfl
  clear xL
  have xK := (H12.out.block (w.heap.size + 1) HK.out.1).trans HK.out.2
  have cK7 : w2.cell? ⟨(w.heap.size + 1), 7, none⟩ = some (.int .u32 (K.v1 : Int)) := by rw [cell_of_row w2 _ 7 _ _ (0, 0) xK]; rfl
  have cK8 : w2.cell? ⟨(w.heap.size + 1), 8, none⟩ = some (.int .i64 K.l1) := by rw [cell_of_row w2 _ 8 _ _ (0, 0) xK]; rfl
  have cK9 : w2.cell? ⟨(w.heap.size + 1), 9, none⟩ = some (.slice KA1 K.h1.length Kc1) := by rw [cell_of_row w2 _ 9 _ _ (0, 0) xK]; rfl
  clear xK
  cases b with
  | false =>
    have hbf : B = false := by
      rw [← HE.out, decide_eq_false_iff_not]
      intro h
      exact absurd HBB.out (by rw [decide_eq_true h.2.2.2.2.1]; decide)
    subst hbf
    go_wp2_with fail
    go_ret
    exact ⟨rfl, HB2.out⟩
  | true =>
    have E4 := Lib.hid (of_decide_eq_true HBB.out.symm)
    clear HBB
    go_wp2_with fail
    refine (rslotSame_any L.v1 K.v1 L.l1 K.l1 w2.heap.size L.h1.length Lc1 K.h1.length Kc1 LA1 KA1 L.h1 K.h1 w2 ((L1.out.row.below HB2.out).more HB2.out.size) ((K1.out.row.below HB2.out).more HB2.out.size) (Nat.le_refl _)).mono ?_
    rintro e w3 ⟨b, rfl, hbb, hb3⟩
    have HB3 := Lib.hid (HB2.out.trans (hb3.mono HB2.out.size))
    have H13 := Lib.hid (H12.out.trans (hb3.mono H12.out.size))
    have HBB := Lib.hid hbb.out
    clear cL7 cL8 cL9 cK7 cK8 cK9
    clear hbb hb3
    have xL := (H13.out.block w.heap.size HL.out.1).trans HL.out.2
    have cL10 : w3.cell? ⟨w.heap.size, 10, none⟩ = some (.bool L.on) := by rw [cell_of_row w3 _ 10 _ _ (0, 0) xL]; rfl
    have cL11 : w3.cell? ⟨w.heap.size, 11, none⟩ = some (.int .u32 (L.m.s : Int)) := by rw [cell_of_row w3 _ 11 _ _ (0, 0) xL]; rfl
    have cL12 : w3.cell? ⟨w.heap.size, 12, none⟩ = some (.int .u32 (L.m.v : Int)) := by rw [cell_of_row w3 _ 12 _ _ (0, 0) xL]; rfl
    have cL13 : w3.cell? ⟨w.heap.size, 13, none⟩ = some (.int .i64 L.m.l) := by rw [cell_of_row w3 _ 13 _ _ (0, 0) xL]; rfl
    have cL14 : w3.cell? ⟨w.heap.size, 14, none⟩ = some (.int .i64 L.m.z) := by rw [cell_of_row w3 _ 14 _ _ (0, 0) xL]; rfl
    have cL15 : w3.cell? ⟨w.heap.size, 15, none⟩ = some (.int .i64 L.m.p) := by rw [cell_of_row w3 _ 15 _ _ (0, 0) xL]; rfl
    have cL16 : w3.cell? ⟨w.heap.size, 16, none⟩ = some (.slice LA L.m.h.length Lc) := by rw [cell_of_row w3 _ 16 _ _ (0, 0) xL]; rfl
    clear xL
    have xK := (H13.out.block (w.heap.size + 1) HK.out.1).trans HK.out.2
    have cK10 : w3.cell? ⟨(w.heap.size + 1), 10, none⟩ = some (.bool K.on) := by rw [cell_of_row w3 _ 10 _ _ (0, 0) xK]; rfl
    have cK11 : w3.cell? ⟨(w.heap.size + 1), 11, none⟩ = some (.int .u32 (K.m.s : Int)) := by rw [cell_of_row w3 _ 11 _ _ (0, 0) xK]; rfl
    have cK12 : w3.cell? ⟨(w.heap.size + 1), 12, none⟩ = some (.int .u32 (K.m.v : Int)) := by rw [cell_of_row w3 _ 12 _ _ (0, 0) xK]; rfl
    have cK13 : w3.cell? ⟨(w.heap.size + 1), 13, none⟩ = some (.int .i64 K.m.l) := by rw [cell_of_row w3 _ 13 _ _ (0, 0) xK]; rfl
    have cK14 : w3.cell? ⟨(w.heap.size + 1), 14, none⟩ = some (.int .i64 K.m.z) := by rw [cell_of_row w3 _ 14 _ _ (0, 0) xK]; rfl
    have cK15 : w3.cell? ⟨(w.heap.size + 1), 15, none⟩ = some (.int .i64 K.m.p) := by rw [cell_of_row w3 _ 15 _ _ (0, 0) xK]; rfl
    have cK16 : w3.cell? ⟨(w.heap.size + 1), 16, none⟩ = some (.slice KA K.m.h.length Kc) := by rw [cell_of_row w3 _ 16 _ _ (0, 0) xK]; rfl
    clear xK
    cases b with
    | false =>
      have hbf : B = false := by
        rw [← HE.out, decide_eq_false_iff_not]
        intro h
        exact absurd HBB.out (by rw [decide_eq_true h.2.2.2.2.2.1]; decide)
      subst hbf
      go_wp2_with fail
      go_ret
      exact ⟨rfl, HB3.out⟩
    | true =>
      have E5 := Lib.hid (of_decide_eq_true HBB.out.symm)
      clear HBB
      by_cases e6 : L.on = K.on
      case neg =>
        have q6 : (L.on == K.on) = false := by simpa using e6
        have hbf : B = false := by
          rw [← HE.out, decide_eq_false_iff_not]
          intro h
          exact e6 h.2.2.2.2.2.2.1
        subst hbf
        go_wp2_with fail
        go_ret
        exact ⟨rfl, HB3.out⟩
      have q6 : (L.on == K.on) = true := by simpa using e6
      go_wp2_with fail
      refine (rmanSame_any L.m.s L.m.v K.m.s K.m.v L.m.l L.m.z L.m.p K.m.l K.m.z K.m.p w3.heap.size L.m.h.length Lc K.m.h.length Kc LA KA L.m.h K.m.h w3 ((L2.out.row.below HB3.out).more HB3.out.size) ((K2.out.row.below HB3.out).more HB3.out.size) (Nat.le_refl _)).mono ?_
      rintro e w4 ⟨b, rfl, hbb, hb4⟩
      have HB4 := Lib.hid (HB3.out.trans (hb4.mono HB3.out.size))
      have hbf : b = B := by
        rw [← HE.out, hbb.out]
        apply Bool.eq_iff_iff.2
        rw [decide_eq_true_eq, decide_eq_true_eq]
        exact ⟨fun h => ⟨e0, e1, e2, e3, E4.out, E5.out, e6, h⟩, fun h => h.2.2.2.2.2.2.2⟩
      subst hbf
      clear hbb hb4
      clear cL10 cL11 cL12 cL13 cL14 cL15 cL16 cK10 cK11 cK12 cK13 cK14 cK15 cK16
      go_wp2_with fail
      go_ret
      exact ⟨rfl, HB4.out⟩
end
section
open Go.RowKit
theorem rps_any (A : Option Addr) (n c : Nat) (l : List UInt8) (w : World) (hl : Row w w.heap.size A n (bv l)) (hn : n ≤ c) (hc : c ≤ 9223372036854775807) :
    Calls Try.prog 14 #[.slice A n c] w fun e w' => ∃ ds, e = .returned (.tuple #[.agg ds, .int .i64 (parseE l)]) ∧ Hid (IsSt w' (fun _ => True) ds (parseL l)) ∧ Hid (Below w.heap.size w w') := by
  obtain ⟨y0, y1, e1⟩ : ∃ y0 y1, (⟨l, 0⟩ : Rd).got 2 = [y0, y1] := by
    have h := got_length ⟨l, 0⟩ 2
    generalize (⟨l, 0⟩ : Rd).got 2 = x at h
    match x, h with
    | [a, b], _ => exact ⟨a, b, rfl⟩
  obtain ⟨r1, p1⟩ : ∃ r, (⟨l, 0⟩ : Rd).past 2 = r := ⟨_, rfl⟩
  obtain ⟨n3, e3⟩ : ∃ k, CrcM.number (r1.got 4) = k := ⟨_, rfl⟩
  obtain ⟨r2, p2⟩ : ∃ r, r1.past 4 = r := ⟨_, rfl⟩
  obtain ⟨n4, e4⟩ : ∃ k, CrcM.number (r2.got 4) = k := ⟨_, rfl⟩
  obtain ⟨r3, p3⟩ : ∃ r, r2.past 4 = r := ⟨_, rfl⟩
  obtain ⟨⟨S0, r4⟩, s0⟩ : ∃ x, r3.slot2 = x := ⟨_, rfl⟩
  obtain ⟨⟨S1, r5⟩, s1⟩ : ∃ x, r4.slot2 = x := ⟨_, rfl⟩
  have h := rps_walk A n c l y0 y1 n3 n4 S0 S1 r1 r2 r3 r4 r5 w hl hn hc e1 p1 e3 p2 e4 p3 s0 s1
  unfold RPsOk at h
  rw [(parse2_is l).1, (parse2_is l).2] at h
  exact h
set_option maxRecDepth 100000 in
set_option maxHeartbeats 400000 in
/-- refused: no bytes -/
theorem rbytesS_no {cs : Array Value} {L : LSt} {w : World} {P : Nat → Prop} (h : IsSt w P cs L) (hm : L.may = false) :
    Calls Try.prog 8 #[.agg cs] w fun e w' => e = .returned (.tuple #[.slice none 0 0, .int .i64 1]) ∧ Below w.heap.size w w' := by
  have hb0 : Below w.heap.size w (w.alloc (.cells cs 30)) := (Below.refl _ _).alloc (Nat.le_refl _) _
  have H0 := Lib.hid (h.below hb0)
  have B0 := Lib.hid hb0
  have BX := Lib.hid (heap_alloc_new w (.cells cs 30))
  have HM := Lib.hid hm
  have I := Lib.hid h.inf
  clear h hb0 hm
  go_enter Try.func8, Try.ntmps8
  go_wp2_with ((with_reducible show wpList _ _ _ _ _ _); refine wpList_load_row (o := ⟨some 9, _, _, _, _, _⟩) rfl _ (.tmp 1) rfl w.heap.size rfl _ _ _ _ BX.out Try.underlying30 rfl I.out ?_)
  refine (rmayS H0.out).mono ?_
  rintro e w1 ⟨rfl, hb1⟩
  rw [HM.out]
  have B1 := Lib.hid (B0.out.trans (hb1.mono B0.out.size))
  clear hb1
  go_wp2_with fail
  go_ret2
  exact ⟨rfl, B1.out⟩
end
section
open Go.RowKit
theorem bv_bend3 (p : List UInt8) (i : Nat) (x : UInt8) : (bv p).set i (.int .u8 (bits .xor .u8 ((p.getD i 0).toNat : Int) (x.toNat : Int))) = bv (CrcM.bend p i x) := by
  rw [u8_xor_nat _ _ (CrcM.b_lt _) (CrcM.b_lt _), ← UInt8.toNat_xor]
  simp only [bv, CrcM.bend, List.map_set]
def sfB (L : LSt) : List UInt8 := if L.may then L.bytes else []
def sfE (L : LSt) : Int := if L.may then 0 else 1
/-- bytes are told, and whether they are there -/
def RB (l : List UInt8) (E : Int) (w : World) (e : Ending) (w' : World) : Prop := ∃ A n c, e = .returned (.tuple #[.slice A n c, .int .i64 E]) ∧ Hid (n = l.length) ∧ Hid (RowP w' (fun _ => True) A n (bv l)) ∧ Hid (n ≤ c ∧ c ≤ 9223372036854775807) ∧ Hid (Below w.heap.size w w')
theorem rb_nil {w w' : World} {e : Ending} (h : e = .returned (.tuple #[.slice none 0 0, .int .i64 1]) ∧ Below w.heap.size w w') : RB [] 1 w e w' :=
  ⟨none, 0, 0, h.1, Lib.hid rfl, Lib.hid (.nil _ _ _), Lib.hid ⟨Nat.le_refl _, by omega⟩, Lib.hid h.2⟩
section
variable {w : World} {P : Nat → Prop} {cs : Array Value} {L : LSt}
theorem bytesQ (h : IsSt w P cs L) (hw : L.w32) {l : List UInt8} {E : Int} (hl : Hid (sfB L = l)) (hE : Hid (sfE L = E)) : Calls Try.prog 7 #[.agg cs] w (RB l E w) := by
  rw [← hl.out, ← hE.out]
  unfold sfB sfE
  cases hm : L.may with
  | false => exact (bytesS_no h hm).mono fun e w' hx => rb_nil hx
  | true => exact (bytesS_yes h hm hw).mono fun e w' ⟨A, n, c, he, hn, ho, hb⟩ => ⟨A, n, c, he, hn, Lib.hid (RowP.of_row (Row.of_own ho.out)), Lib.hid (own_cap ho.out), hb⟩
theorem rbytesQ (h : IsSt w P cs L) (hw : L.w32) {l : List UInt8} {E : Int} (hl : Hid (sfB L = l)) (hE : Hid (sfE L = E)) : Calls Try.prog 8 #[.agg cs] w (RB l E w) := by
  rw [← hl.out, ← hE.out]
  unfold sfB sfE
  cases hm : L.may with
  | false => exact (rbytesS_no h hm).mono fun e w' hx => rb_nil hx
  | true => exact (rbytesS_yes h hm hw).mono fun e w' ⟨A, n, c, he, hn, ho, hb⟩ => ⟨A, n, c, he, hn, Lib.hid (RowP.of_row (Row.of_own ho.out)), Lib.hid (own_cap ho.out), hb⟩
theorem sfB_len (hw : L.w32) : (sfB L).length ≤ 200 := by
  unfold sfB
  split
  · rename_i hm
    rw [bytes_length hm hw]
    simp only [lenN]
    split <;> split <;> split <;> omega
  · simp
end
set_option maxRecDepth 100000 in
set_option maxHeartbeats 25600000 in
theorem sforms19_walk (cs ds : Array Value) (L K : LSt) (Ar : Option Addr) (nr cr : Nat) (lr : List UInt8) (at_ : Int) (x : UInt8) (cut : Int) (w : World) (hs : IsSt w (fun _ => True) cs L) (hk : IsSt w (fun _ => True) ds K) (hw : L.w32) (hr : Row w w.heap.size Ar nr (bv lr)) (hnc : nr ≤ cr) (hcm : cr ≤ 9223372036854775807) :
    Calls Try.prog 3 #[.agg cs, .agg ds, .slice Ar nr cr, .int .i64 at_, .int .u8 (x.toNat : Int), .int .i64 cut] w fun e w' => e = .returned (.bool true) ∧ Below w.heap.size w w' := by
  obtain ⟨i0, hi, hz0, hz1, hz2⟩ := info_parts Try.info5
  have IA := Lib.hid hs.inf
  have IB := Lib.hid hk.inf
  have HWL := Lib.hid hw
  have HR := Lib.hid (RowP.of_row hr)
  have HCR := Lib.hid (And.intro hnc hcm)
  have e0 := ((((Env.start w).addSt hs).addSt hk).alloc cs 30).alloc ds 30
  rw [show (w.alloc (.cells cs 30)).heap.size = w.heap.size + 1 by simp] at e0
  have E0 := Lib.hid e0
  clear e0 hs hk hw hr hnc hcm
  go_enter Try.func3, Try.ntmps3
  go_upto_region 1 with fail
  generalize (w.alloc (.cells cs 30)).alloc (.cells ds 30) = w0 at *
  have HE : Hid (∀ W, Below w0.heap.size w0 W → Env w W [((w.heap.size + 1), ds, 30), (w.heap.size, cs, 30)] [(ds, K), (cs, L)] []) := Lib.hid fun W hW => E0.out.below hW
  clear E0
  by_cases hla : L.light
  · have HLA := Lib.hid hla
    by_cases hlb : K.light
    · have HLB := Lib.hid hlb
      clear hla hlb
      go_cut [35] (fun s35 wx => s35 = .bool (decide (300 < nr)) ∧ Hid (Env w wx [((w.heap.size + 1), ds, 30), (w.heap.size, cs, 30)] [(ds, K), (cs, L)] []))
      case first =>
        refine wp_region_noPanic ?_
        refine wp_region_held_drew (S := (fun W => Below (w0.heap.size) w0 W)) (by kernel_rfl) (Below.refl _ _).drew (fun hH0 => ?_)
        have hH0 : Below (w0.heap.size) w0 w0.drew := hH0
        generalize w0.drew = wd3000 at *
        refine wpAnyH_take (i := 0) (oi := { dst := some 25, op := Op.load 30 (Operand.tmp 6), type := 30, pos := "law.go:32", after := #[], guard := none }) (v := .agg cs) rfl (by kernel_rfl) (by kernel_rfl) (by kernel_rfl) (fun _ _ _ h => h) (yields_row (by rfl) _ _ rfl (w.heap.size) rfl _ _ _ _ (fun W hW => (HE.out W hW).bx _ _ _ (.tail _ (.head _))) Try.underlying30 rfl IA.out) hH0 ?tkr3001
        try simp only [Act.put, List.setIfInBounds_toArray, List.set_cons_zero, List.set_cons_succ]
        refine wpAnyH_take (i := 2) (oi := { dst := some 27, op := Op.load 30 (Operand.tmp 7), type := 30, pos := "law.go:32", after := #[], guard := none }) (v := .agg ds) rfl (by kernel_rfl) (by kernel_rfl) (by kernel_rfl) (fun _ _ _ h => h) (yields_row (by rfl) _ _ rfl ((w.heap.size + 1)) rfl _ _ _ _ (fun W hW => (HE.out W hW).bx _ _ _ (.head _)) Try.underlying30 rfl IB.out) hH0 ?tkr3002
        try simp only [Act.put, List.setIfInBounds_toArray, List.set_cons_zero, List.set_cons_succ]
        refine wpAnyH_ready (rs := [1]) (by kernel_rfl) (by simp) ?_
        refine AllReadyH.cons (o := { dst := some 26, op := Op.call { callee := Callee.value (Operand.func 5), args := #[Operand.tmp 25], argTypes := #[30] }, type := 3, pos := "law.go:32", after := #[{ on := 0, ground := Ground.data }], guard := none }) rfl (fun K hK => ?_) AllReadyH.nil
        go_simp
        refine (heavyS_no ((HE.out wd3000 (hH0)).st _ _ (.tail _ (.head _))) HLA.out).mono ?_
        rintro e' wn3003 ⟨rfl, hb3003⟩
        go_simp
        have hS3003 : Below (w0.heap.size) w0 wn3003 := (hH0).trans (hb3003.mono (hH0).size)
        refine hK.out _ _ hS3003 (fun hH3003 => ?_)
        have hH3003 : Below (w0.heap.size) w0 wn3003 := hH3003
        clear hK K hS3003
        try simp only [Act.put, List.setIfInBounds_toArray, List.set_cons_zero, List.set_cons_succ]
        refine wpAnyH_ready (rs := [3]) (by kernel_rfl) (by simp) ?_
        refine AllReadyH.cons (o := { dst := some 28, op := Op.call { callee := Callee.value (Operand.func 5), args := #[Operand.tmp 27], argTypes := #[30] }, type := 3, pos := "law.go:32", after := #[{ on := 2, ground := Ground.data }, { on := 1, ground := Ground.chain }], guard := none }) rfl (fun K hK => ?_) AllReadyH.nil
        go_simp
        refine (heavyS_no ((HE.out wn3003 (hH3003)).st _ _ (.head _)) HLB.out).mono ?_
        rintro e' wn3004 ⟨rfl, hb3004⟩
        go_simp
        have hS3004 : Below (w0.heap.size) w0 wn3004 := (hH3003).trans (hb3004.mono (hH3003).size)
        refine hK.out _ _ hS3004 (fun hH3004 => ?_)
        have hH3004 : Below (w0.heap.size) w0 wn3004 := hH3004
        clear hK K hS3004
        try simp only [Act.put, List.setIfInBounds_toArray, List.set_cons_zero, List.set_cons_succ]
        refine wpAnyH_take (i := 4) (oi := { dst := some 29, op := Op.binOp BinOp.add 3 (Operand.tmp 26) (Operand.tmp 28) 3, type := 3, pos := "law.go:32", after := #[{ on := 1, ground := Ground.data }, { on := 3, ground := Ground.data }], guard := none }) (v := ?tkv3005) rfl (by kernel_rfl) (by kernel_rfl) (by kernel_rfl) (fun _ _ _ h => h) (Or.inl ⟨by rfl, ?tky3005⟩) hH3004 ?tkr3005
        case tky3005 => (intro w' hSw; clear hSw; go_simp; try with_reducible rfl)
        try simp only [Act.put, List.setIfInBounds_toArray, List.set_cons_zero, List.set_cons_succ]
        refine wpAnyH_take (i := 5) (oi := { dst := some 30, op := Op.binOp BinOp.gtr 3 (Operand.tmp 29) (Operand.const (Value.int IntKind.i64 0)) 3, type := 4, pos := "law.go:32", after := #[{ on := 4, ground := Ground.data }], guard := none }) (v := ?tkv3006) rfl (by kernel_rfl) (by kernel_rfl) (by kernel_rfl) (fun _ _ _ h => h) (Or.inl ⟨by rfl, ?tky3006⟩) hH3004 ?tkr3006
        case tky3006 => (intro w' hSw; clear hSw; go_simp; try with_reducible rfl)
        try simp only [Act.put, List.setIfInBounds_toArray, List.set_cons_zero, List.set_cons_succ]
        refine wpAnyH_take (i := 6) (oi := { dst := some 31, op := Op.move (Operand.tmp 30), type := 4, pos := "law.go:32", after := #[{ on := 5, ground := Ground.data }, { on := 3, ground := Ground.chain }], guard := none }) (v := ?tkv3007) rfl (by kernel_rfl) (by kernel_rfl) (by kernel_rfl) (fun _ _ _ h => h) (Or.inl ⟨by rfl, ?tky3007⟩) hH3004 ?tkr3007
        case tky3007 => (intro w' hSw; clear hSw; go_simp; try with_reducible rfl)
        try simp only [Act.put, List.setIfInBounds_toArray, List.set_cons_zero, List.set_cons_succ]
        refine wpAnyH_take (i := 7) (oi := { dst := some 32, op := Op.move (Operand.tmp 2), type := 23, pos := "law.go:32", after := #[{ on := 6, ground := Ground.guard }], guard := some (6, false) }) (v := ?tkv3008) rfl (by kernel_rfl) (by kernel_rfl) (by kernel_rfl) (fun _ _ _ h => h) (Or.inl ⟨by rfl, ?tky3008⟩) hH3004 ?tkr3008
        case tky3008 => (intro w' hSw; clear hSw; go_simp; try with_reducible rfl)
        try simp only [Act.put, List.setIfInBounds_toArray, List.set_cons_zero, List.set_cons_succ]
        refine wpAnyH_take (i := 8) (oi := { dst := some 33, op := Op.call { callee := Callee.builtin Builtin.len, args := #[Operand.tmp 32], argTypes := #[23] }, type := 3, pos := "law.go:32", after := #[{ on := 7, ground := Ground.data }, { on := 6, ground := Ground.guard }], guard := some (6, false) }) (v := ?tkv3009) rfl (by kernel_rfl) (by kernel_rfl) (by kernel_rfl) (fun _ _ _ h => h) (Or.inl ⟨by rfl, ?tky3009⟩) hH3004 ?tkr3009
        case tky3009 => (intro w' hSw; clear hSw; go_simp; try with_reducible rfl)
        try simp only [Act.put, List.setIfInBounds_toArray, List.set_cons_zero, List.set_cons_succ]
        refine wpAnyH_take (i := 9) (oi := { dst := some 34, op := Op.binOp BinOp.gtr 3 (Operand.tmp 33) (Operand.const (Value.int IntKind.i64 300)) 3, type := 4, pos := "law.go:32", after := #[{ on := 8, ground := Ground.data }, { on := 6, ground := Ground.guard }], guard := some (6, false) }) (v := ?tkv3010) rfl (by kernel_rfl) (by kernel_rfl) (by kernel_rfl) (fun _ _ _ h => h) (Or.inl ⟨by rfl, ?tky3010⟩) hH3004 ?tkr3010
        case tky3010 => (intro w' hSw; clear hSw; go_simp; try with_reducible rfl)
        try simp only [Act.put, List.setIfInBounds_toArray, List.set_cons_zero, List.set_cons_succ]
        refine wpAnyH_take (i := 10) (oi := { dst := some 35, op := Op.pick (Operand.tmp 31) (Operand.const (Value.bool true)) (Operand.tmp 34), type := 4, pos := "law.go:32", after := #[{ on := 6, ground := Ground.data }, { on := 9, ground := Ground.data }], guard := none }) (v := ?tkv3011) rfl (by kernel_rfl) (by kernel_rfl) (by kernel_rfl) (fun _ _ _ h => h) (Or.inl ⟨by rfl, ?tky3011⟩) hH3004 ?tkr3011
        case tky3011 => (intro w' hSw; clear hSw; go_simp; try with_reducible rfl)
        try simp only [Act.put, List.setIfInBounds_toArray, List.set_cons_zero, List.set_cons_succ]
        refine wpAnyH_done (by kernel_rfl) ?_ _
        refine NoPanic.normal ?_
        have HEND := Lib.hid (HE.out _ (hH3004))
        go_wp2_with fail
        go_meet
        exact ⟨by rw [show IntKind.i64.wrap 0 = 0 from rfl]; simp; omega, HEND⟩
      case rest =>
        obtain ⟨rfl, HE2⟩ := hcut
        clear HE
        obtain ⟨wD, rfl⟩ : ∃ W : World, W = wc := ⟨_, rfl⟩
        by_cases hn300 : 300 < nr
        · rw [decide_eq_true hn300]
          go_wp2_with fail
          refine (awake19_any _).mono ?_
          rintro e wz ⟨rfl, hbz⟩
          have hb := (HE2.out.below hbz).b
          go_wp2_with fail
          go_ret
          exact ⟨rfl, hb⟩
        rw [decide_eq_false hn300]
        clear hn300
        obtain ⟨PB, hPB⟩ : ∃ x, sfB L = x := ⟨_, rfl⟩
        obtain ⟨E, hE⟩ : ∃ x, sfE L = x := ⟨_, rfl⟩
        obtain ⟨my, hmy⟩ : ∃ x, L.may = x := ⟨_, rfl⟩
        obtain ⟨sm, hsm⟩ : ∃ x, L.eqb K = x := ⟨_, rfl⟩
        have HPB := Lib.hid hPB
        have HEE := Lib.hid hE
        have HMY := Lib.hid hmy
        have HSM := Lib.hid hsm
        clear hPB hE hmy hsm
        go_wp2_with ((with_reducible show wpList _ _ _ _ _ _); refine wpList_load_row (o := ⟨some 38, _, _, _, _, _⟩) rfl _ (.tmp 6) rfl (w.heap.size) rfl _ _ _ _ (HE2.out.bx _ _ _ (.tail _ (.head _))) Try.underlying30 rfl IA.out ?_)
        refine (bytesQ (HE2.out.st _ _ (.tail _ (.head _))) HWL.out HPB HEE).mono ?_
        rintro e w1 ⟨A1t, n1t, c1t, rfl, -, r1, -, hb1⟩
        have E1 := Lib.hid (HE2.out.below hb1.out)
        clear hb1 HE2
        go_wp2_with ((with_reducible show wpList _ _ _ _ _ _); refine wpList_load_row (o := ⟨some 43, _, _, _, _, _⟩) rfl _ (.tmp 6) rfl (w.heap.size) rfl _ _ _ _ (E1.out.bx _ _ _ (.tail _ (.head _))) Try.underlying30 rfl IA.out ?_)
        refine (rbytesQ (E1.out.st _ _ (.tail _ (.head _))) HWL.out HPB HEE).mono ?_
        rintro e wC ⟨Aq, nq, cq, rfl, HNQ, R2, HCQ, hb2⟩
        have E2 := Lib.hid (E1.out.below hb2.out)
        have R1 := Lib.hid (r1.out.below hb2.out)
        have RR := Lib.hid (HR.out.below E2.out.b)
        clear r1 hb2 E1
        go_upto_region 5 with fail
        have HT2 : Hid (nq ≤ 200) := Lib.hid (by rw [HNQ.out, ← HPB.out]; exact sfB_len HWL.out)
        have HE : Hid (∀ W, Below wC.heap.size wC W → Env w W [((w.heap.size + 1), ds, 30), (w.heap.size, cs, 30)] [(ds, K), (cs, L)] []) := Lib.hid (fun W hW => E2.out.below hW)
        have V1 : Hid (∀ W, Below wC.heap.size wC W → (convert 23 9 (.slice A1t n1t c1t)).run Try.prog W = .ok (.string ⟨PB.toArray⟩) W) := Lib.hid (fun W hW => run_string_row (P := Try.prog) (R1.out.below hW).row c1t 23 9 5 Try.underlying23 Try.underlying5 Try.underlying9)
        have V2 : Hid (∀ W, Below wC.heap.size wC W → (convert 23 9 (.slice Aq nq cq)).run Try.prog W = .ok (.string ⟨PB.toArray⟩) W) := Lib.hid (fun W hW => run_string_row (P := Try.prog) (R2.out.below hW).row cq 23 9 5 Try.underlying23 Try.underlying5 Try.underlying9)
        have nM : (my != my) = false := by simp
        have nS : (sm != sm) = false := by simp
        have nE : (E != E) = false := by simp
        clear R1 E2
        refine wp_region_noPanic ?_
        refine wp_region_held_drew (S := (fun W => Below (wC.heap.size) wC W)) (by kernel_rfl) (Below.refl _ _).drew (fun hH0 => ?_)
        have hH0 : Below (wC.heap.size) wC wC.drew := hH0
        generalize wC.drew = wd4000 at *
        refine wpAnyH_take (i := 0) (oi := { dst := some 47, op := Op.load 30 (Operand.tmp 6), type := 30, pos := "law.go:37", after := #[], guard := none }) (v := .agg cs) rfl (by kernel_rfl) (by kernel_rfl) (by kernel_rfl) (fun _ _ _ h => h) (yields_row (by rfl) _ _ rfl (w.heap.size) rfl _ _ _ _ (fun W hW => (HE.out W hW).bx _ _ _ (.tail _ (.head _))) Try.underlying30 rfl IA.out) hH0 ?tkr4001
        try simp only [Act.put, List.setIfInBounds_toArray, List.set_cons_zero, List.set_cons_succ]
        refine wpAnyH_take (i := 2) (oi := { dst := some 49, op := Op.load 30 (Operand.tmp 6), type := 30, pos := "law.go:37", after := #[], guard := none }) (v := .agg cs) rfl (by kernel_rfl) (by kernel_rfl) (by kernel_rfl) (fun _ _ _ h => h) (yields_row (by rfl) _ _ rfl (w.heap.size) rfl _ _ _ _ (fun W hW => (HE.out W hW).bx _ _ _ (.tail _ (.head _))) Try.underlying30 rfl IA.out) hH0 ?tkr4002
        try simp only [Act.put, List.setIfInBounds_toArray, List.set_cons_zero, List.set_cons_succ]
        refine wpAnyH_ready (rs := [1]) (by kernel_rfl) (by simp) ?_
        refine AllReadyH.cons (o := { dst := some 48, op := Op.call { callee := Callee.value (Operand.func 9), args := #[Operand.tmp 47], argTypes := #[30] }, type := 4, pos := "law.go:37", after := #[{ on := 0, ground := Ground.data }], guard := none }) rfl (fun K hK => ?_) AllReadyH.nil
        go_simp
        refine (mayS ((HE.out wd4000 (hH0)).st _ _ (.tail _ (.head _)))).mono ?_
        rintro e' wn4003 ⟨rfl, hb4003⟩
        rw [HMY.out]
        go_simp
        have hS4003 : Below (wC.heap.size) wC wn4003 := (hH0).trans (hb4003.mono (hH0).size)
        refine hK.out _ _ hS4003 (fun hH4003 => ?_)
        have hH4003 : Below (wC.heap.size) wC wn4003 := hH4003
        clear hK K hS4003
        try simp only [Act.put, List.setIfInBounds_toArray, List.set_cons_zero, List.set_cons_succ]
        refine wpAnyH_ready (rs := [3]) (by kernel_rfl) (by simp) ?_
        refine AllReadyH.cons (o := { dst := some 50, op := Op.call { callee := Callee.value (Operand.func 10), args := #[Operand.tmp 49], argTypes := #[30] }, type := 4, pos := "law.go:37", after := #[{ on := 2, ground := Ground.data }, { on := 1, ground := Ground.chain }], guard := none }) rfl (fun K hK => ?_) AllReadyH.nil
        go_simp
        refine (rmayS ((HE.out wn4003 (hH4003)).st _ _ (.tail _ (.head _)))).mono ?_
        rintro e' wn4004 ⟨rfl, hb4004⟩
        rw [HMY.out]
        go_simp
        have hS4004 : Below (wC.heap.size) wC wn4004 := (hH4003).trans (hb4004.mono (hH4003).size)
        refine hK.out _ _ hS4004 (fun hH4004 => ?_)
        have hH4004 : Below (wC.heap.size) wC wn4004 := hH4004
        clear hK K hS4004
        try simp only [Act.put, List.setIfInBounds_toArray, List.set_cons_zero, List.set_cons_succ]
        refine wpAnyH_take (i := 4) (oi := { dst := some 51, op := Op.binOp BinOp.neq 4 (Operand.tmp 48) (Operand.tmp 50) 4, type := 4, pos := "law.go:37", after := #[{ on := 1, ground := Ground.data }, { on := 3, ground := Ground.data }], guard := none }) (v := ?tkv4005) rfl (by kernel_rfl) (by kernel_rfl) (by kernel_rfl) (fun _ _ _ h => h) (Or.inl ⟨by rfl, ?tky4005⟩) hH4004 ?tkr4005
        case tky4005 => (intro w' hSw; clear hSw; go_simp; try with_reducible rfl)
        try simp only [Act.put, List.setIfInBounds_toArray, List.set_cons_zero, List.set_cons_succ]
        refine wpAnyH_take (i := 5) (oi := { dst := some 52, op := Op.move (Operand.tmp 51), type := 4, pos := "law.go:37", after := #[{ on := 4, ground := Ground.data }, { on := 3, ground := Ground.chain }], guard := none }) (v := ?tkv4006) rfl (by kernel_rfl) (by kernel_rfl) (by kernel_rfl) (fun _ _ _ h => h) (Or.inl ⟨by rfl, ?tky4006⟩) hH4004 ?tkr4006
        case tky4006 => (intro w' hSw; clear hSw; go_simp; try with_reducible rfl)
        try simp only [Act.put, List.setIfInBounds_toArray, List.set_cons_zero, List.set_cons_succ]
        refine wpAnyH_take (i := 6) (oi := { dst := some 53, op := Op.load 30 (Operand.tmp 6), type := 30, pos := "law.go:37", after := #[{ on := 5, ground := Ground.guard }], guard := some (5, false) }) (v := .agg cs) rfl (by kernel_rfl) (by kernel_rfl) (by kernel_rfl) (fun _ _ _ h => h) (yields_row (by rfl) _ _ rfl (w.heap.size) rfl _ _ _ _ (fun W hW => (HE.out W hW).bx _ _ _ (.tail _ (.head _))) Try.underlying30 rfl IA.out) hH4004 ?tkr4007
        try simp only [Act.put, List.setIfInBounds_toArray, List.set_cons_zero, List.set_cons_succ]
        refine wpAnyH_take (i := 7) (oi := { dst := some 54, op := Op.load 30 (Operand.tmp 7), type := 30, pos := "law.go:37", after := #[{ on := 5, ground := Ground.guard }], guard := some (5, false) }) (v := .agg ds) rfl (by kernel_rfl) (by kernel_rfl) (by kernel_rfl) (fun _ _ _ h => h) (yields_row (by rfl) _ _ rfl ((w.heap.size + 1)) rfl _ _ _ _ (fun W hW => (HE.out W hW).bx _ _ _ (.head _)) Try.underlying30 rfl IB.out) hH4004 ?tkr4008
        try simp only [Act.put, List.setIfInBounds_toArray, List.set_cons_zero, List.set_cons_succ]
        refine wpAnyH_take (i := 9) (oi := { dst := some 56, op := Op.load 30 (Operand.tmp 6), type := 30, pos := "law.go:37", after := #[{ on := 5, ground := Ground.guard }], guard := some (5, false) }) (v := .agg cs) rfl (by kernel_rfl) (by kernel_rfl) (by kernel_rfl) (fun _ _ _ h => h) (yields_row (by rfl) _ _ rfl (w.heap.size) rfl _ _ _ _ (fun W hW => (HE.out W hW).bx _ _ _ (.tail _ (.head _))) Try.underlying30 rfl IA.out) hH4004 ?tkr4009
        try simp only [Act.put, List.setIfInBounds_toArray, List.set_cons_zero, List.set_cons_succ]
        refine wpAnyH_take (i := 10) (oi := { dst := some 57, op := Op.load 30 (Operand.tmp 7), type := 30, pos := "law.go:37", after := #[{ on := 5, ground := Ground.guard }], guard := some (5, false) }) (v := .agg ds) rfl (by kernel_rfl) (by kernel_rfl) (by kernel_rfl) (fun _ _ _ h => h) (yields_row (by rfl) _ _ rfl ((w.heap.size + 1)) rfl _ _ _ _ (fun W hW => (HE.out W hW).bx _ _ _ (.head _)) Try.underlying30 rfl IB.out) hH4004 ?tkr4010
        try simp only [Act.put, List.setIfInBounds_toArray, List.set_cons_zero, List.set_cons_succ]
        refine wpAnyH_ready (rs := [8]) (by kernel_rfl) (by simp) ?_
        refine AllReadyH.cons (o := { dst := some 55, op := Op.call { callee := Callee.value (Operand.func 11), args := #[Operand.tmp 53, Operand.tmp 54], argTypes := #[30, 30] }, type := 4, pos := "law.go:37", after := #[{ on := 6, ground := Ground.data }, { on := 7, ground := Ground.data }, { on := 5, ground := Ground.chain }, { on := 5, ground := Ground.guard }], guard := some (5, false) }) rfl (fun K hK => ?_) AllReadyH.nil
        go_simp
        refine (sameS ((HE.out wn4004 (hH4004)).st _ _ (.tail _ (.head _))) ((HE.out wn4004 (hH4004)).st _ _ (.head _))).mono ?_
        rintro e' wn4011 ⟨rfl, hb4011⟩
        rw [HSM.out]
        go_simp
        have hS4011 : Below (wC.heap.size) wC wn4011 := (hH4004).trans (hb4011.mono (hH4004).size)
        refine hK.out _ _ hS4011 (fun hH4011 => ?_)
        have hH4011 : Below (wC.heap.size) wC wn4011 := hH4011
        clear hK K hS4011
        try simp only [Act.put, List.setIfInBounds_toArray, List.set_cons_zero, List.set_cons_succ]
        refine wpAnyH_ready (rs := [11]) (by kernel_rfl) (by simp) ?_
        refine AllReadyH.cons (o := { dst := some 58, op := Op.call { callee := Callee.value (Operand.func 12), args := #[Operand.tmp 56, Operand.tmp 57], argTypes := #[30, 30] }, type := 4, pos := "law.go:37", after := #[{ on := 9, ground := Ground.data }, { on := 10, ground := Ground.data }, { on := 8, ground := Ground.chain }, { on := 5, ground := Ground.guard }], guard := some (5, false) }) rfl (fun K hK => ?_) AllReadyH.nil
        go_simp
        refine (rsameS ((HE.out wn4011 (hH4011)).st _ _ (.tail _ (.head _))) ((HE.out wn4011 (hH4011)).st _ _ (.head _))).mono ?_
        rintro e' wn4012 ⟨rfl, hb4012⟩
        rw [HSM.out]
        go_simp
        have hS4012 : Below (wC.heap.size) wC wn4012 := (hH4011).trans (hb4012.mono (hH4011).size)
        refine hK.out _ _ hS4012 (fun hH4012 => ?_)
        have hH4012 : Below (wC.heap.size) wC wn4012 := hH4012
        clear hK K hS4012
        try simp only [Act.put, List.setIfInBounds_toArray, List.set_cons_zero, List.set_cons_succ]
        refine wpAnyH_take (i := 12) (oi := { dst := some 59, op := Op.binOp BinOp.neq 4 (Operand.tmp 55) (Operand.tmp 58) 4, type := 4, pos := "law.go:37", after := #[{ on := 8, ground := Ground.data }, { on := 11, ground := Ground.data }, { on := 5, ground := Ground.guard }], guard := some (5, false) }) (v := ?tkv4013) rfl (by kernel_rfl) (by kernel_rfl) (by kernel_rfl) (fun _ _ _ h => h) (Or.inl ⟨by rfl, ?tky4013⟩) hH4012 ?tkr4013
        case tky4013 => (intro w' hSw; clear hSw; go_simp; try with_reducible rfl)
        try simp only [Act.put, List.setIfInBounds_toArray, List.set_cons_zero, List.set_cons_succ]
        refine wpAnyH_take (i := 13) (oi := { dst := some 60, op := Op.pick (Operand.tmp 52) (Operand.const (Value.bool true)) (Operand.tmp 59), type := 4, pos := "law.go:37", after := #[{ on := 5, ground := Ground.data }, { on := 12, ground := Ground.data }], guard := none }) (v := ?tkv4014) rfl (by kernel_rfl) (by kernel_rfl) (by kernel_rfl) (fun _ _ _ h => h) (Or.inl ⟨by rfl, ?tky4014⟩) hH4012 ?tkr4014
        case tky4014 => (intro w' hSw; clear hSw; go_simp; try with_reducible rfl)
        try simp only [Act.put, List.setIfInBounds_toArray, List.set_cons_zero, List.set_cons_succ]
        refine wpAnyH_take (i := 14) (oi := { dst := some 61, op := Op.move (Operand.tmp 60), type := 4, pos := "law.go:37", after := #[{ on := 13, ground := Ground.data }, { on := 11, ground := Ground.chain }], guard := none }) (v := ?tkv4015) rfl (by kernel_rfl) (by kernel_rfl) (by kernel_rfl) (fun _ _ _ h => h) (Or.inl ⟨by rfl, ?tky4015⟩) hH4012 ?tkr4015
        case tky4015 => (intro w' hSw; clear hSw; go_simp; try with_reducible rfl)
        try simp only [Act.put, List.setIfInBounds_toArray, List.set_cons_zero, List.set_cons_succ]
        refine wpAnyH_take (i := 15) (oi := { dst := some 62, op := Op.move (Operand.tmp 13), type := 23, pos := "law.go:37", after := #[{ on := 14, ground := Ground.guard }], guard := some (14, false) }) (v := ?tkv4016) rfl (by kernel_rfl) (by kernel_rfl) (by kernel_rfl) (fun _ _ _ h => h) (Or.inl ⟨by rfl, ?tky4016⟩) hH4012 ?tkr4016
        case tky4016 => (intro w' hSw; clear hSw; go_simp; try with_reducible rfl)
        try simp only [Act.put, List.setIfInBounds_toArray, List.set_cons_zero, List.set_cons_succ]
        refine wpAnyH_take (i := 16) (oi := { dst := some 63, op := Op.convert 23 9 (Operand.tmp 62), type := 9, pos := "law.go:37", after := #[{ on := 15, ground := Ground.data }, { on := 14, ground := Ground.guard }], guard := some (14, false) }) (v := ?tkv4017) rfl (by kernel_rfl) (by kernel_rfl) (by kernel_rfl) (fun _ _ _ h => h) (Or.inl ⟨by rfl, ?tky4017⟩) hH4012 ?tkr4017
        case tky4017 => (intro w' hSw; have z0 := V1.out _ hSw; have z1 := V2.out _ hSw; clear hSw; go_simp; try with_reducible rfl)
        try simp only [Act.put, List.setIfInBounds_toArray, List.set_cons_zero, List.set_cons_succ]
        refine wpAnyH_take (i := 17) (oi := { dst := some 64, op := Op.move (Operand.tmp 15), type := 23, pos := "law.go:37", after := #[{ on := 14, ground := Ground.guard }], guard := some (14, false) }) (v := ?tkv4018) rfl (by kernel_rfl) (by kernel_rfl) (by kernel_rfl) (fun _ _ _ h => h) (Or.inl ⟨by rfl, ?tky4018⟩) hH4012 ?tkr4018
        case tky4018 => (intro w' hSw; clear hSw; go_simp; try with_reducible rfl)
        try simp only [Act.put, List.setIfInBounds_toArray, List.set_cons_zero, List.set_cons_succ]
        refine wpAnyH_take (i := 18) (oi := { dst := some 65, op := Op.convert 23 9 (Operand.tmp 64), type := 9, pos := "law.go:37", after := #[{ on := 17, ground := Ground.data }, { on := 14, ground := Ground.guard }], guard := some (14, false) }) (v := ?tkv4019) rfl (by kernel_rfl) (by kernel_rfl) (by kernel_rfl) (fun _ _ _ h => h) (Or.inl ⟨by rfl, ?tky4019⟩) hH4012 ?tkr4019
        case tky4019 => (intro w' hSw; have z0 := V1.out _ hSw; have z1 := V2.out _ hSw; clear hSw; go_simp; try with_reducible rfl)
        try simp only [Act.put, List.setIfInBounds_toArray, List.set_cons_zero, List.set_cons_succ]
        refine wpAnyH_take (i := 19) (oi := { dst := some 66, op := Op.binOp BinOp.neq 9 (Operand.tmp 63) (Operand.tmp 65) 9, type := 4, pos := "law.go:37", after := #[{ on := 16, ground := Ground.data }, { on := 18, ground := Ground.data }, { on := 14, ground := Ground.guard }], guard := some (14, false) }) (v := ?tkv4020) rfl (by kernel_rfl) (by kernel_rfl) (by kernel_rfl) (fun _ _ _ h => h) (Or.inl ⟨by rfl, ?tky4020⟩) hH4012 ?tkr4020
        case tky4020 => (intro w' hSw; clear hSw; go_simp; try with_reducible rfl)
        try simp only [Act.put, List.setIfInBounds_toArray, List.set_cons_zero, List.set_cons_succ]
        refine wpAnyH_take (i := 20) (oi := { dst := some 67, op := Op.pick (Operand.tmp 61) (Operand.const (Value.bool true)) (Operand.tmp 66), type := 4, pos := "law.go:37", after := #[{ on := 14, ground := Ground.data }, { on := 19, ground := Ground.data }], guard := none }) (v := ?tkv4021) rfl (by kernel_rfl) (by kernel_rfl) (by kernel_rfl) (fun _ _ _ h => h) (Or.inl ⟨by rfl, ?tky4021⟩) hH4012 ?tkr4021
        case tky4021 => (intro w' hSw; clear hSw; go_simp; try with_reducible rfl)
        try simp only [Act.put, List.setIfInBounds_toArray, List.set_cons_zero, List.set_cons_succ]
        refine wpAnyH_take (i := 21) (oi := { dst := some 68, op := Op.move (Operand.tmp 67), type := 4, pos := "law.go:37", after := #[{ on := 20, ground := Ground.data }, { on := 14, ground := Ground.chain }], guard := none }) (v := ?tkv4022) rfl (by kernel_rfl) (by kernel_rfl) (by kernel_rfl) (fun _ _ _ h => h) (Or.inl ⟨by rfl, ?tky4022⟩) hH4012 ?tkr4022
        case tky4022 => (intro w' hSw; clear hSw; go_simp; try with_reducible rfl)
        try simp only [Act.put, List.setIfInBounds_toArray, List.set_cons_zero, List.set_cons_succ]
        refine wpAnyH_take (i := 22) (oi := { dst := some 69, op := Op.move (Operand.tmp 14), type := 33, pos := "law.go:37", after := #[{ on := 21, ground := Ground.guard }], guard := some (21, false) }) (v := ?tkv4023) rfl (by kernel_rfl) (by kernel_rfl) (by kernel_rfl) (fun _ _ _ h => h) (Or.inl ⟨by rfl, ?tky4023⟩) hH4012 ?tkr4023
        case tky4023 => (intro w' hSw; clear hSw; go_simp; try with_reducible rfl)
        try simp only [Act.put, List.setIfInBounds_toArray, List.set_cons_zero, List.set_cons_succ]
        refine wpAnyH_take (i := 23) (oi := { dst := some 70, op := Op.move (Operand.tmp 16), type := 33, pos := "law.go:37", after := #[{ on := 21, ground := Ground.guard }], guard := some (21, false) }) (v := ?tkv4024) rfl (by kernel_rfl) (by kernel_rfl) (by kernel_rfl) (fun _ _ _ h => h) (Or.inl ⟨by rfl, ?tky4024⟩) hH4012 ?tkr4024
        case tky4024 => (intro w' hSw; clear hSw; go_simp; try with_reducible rfl)
        try simp only [Act.put, List.setIfInBounds_toArray, List.set_cons_zero, List.set_cons_succ]
        refine wpAnyH_take (i := 24) (oi := { dst := some 71, op := Op.binOp BinOp.neq 33 (Operand.tmp 69) (Operand.tmp 70) 33, type := 4, pos := "law.go:37", after := #[{ on := 22, ground := Ground.data }, { on := 23, ground := Ground.data }, { on := 21, ground := Ground.guard }], guard := some (21, false) }) (v := ?tkv4025) rfl (by kernel_rfl) (by kernel_rfl) (by kernel_rfl) (fun _ _ _ h => h) (Or.inl ⟨by rfl, ?tky4025⟩) hH4012 ?tkr4025
        case tky4025 => (intro w' hSw; clear hSw; go_simp; try with_reducible rfl)
        try simp only [Act.put, List.setIfInBounds_toArray, List.set_cons_zero, List.set_cons_succ]
        refine wpAnyH_take (i := 25) (oi := { dst := some 72, op := Op.pick (Operand.tmp 68) (Operand.const (Value.bool true)) (Operand.tmp 71), type := 4, pos := "law.go:37", after := #[{ on := 21, ground := Ground.data }, { on := 24, ground := Ground.data }], guard := none }) (v := ?tkv4026) rfl (by kernel_rfl) (by kernel_rfl) (by kernel_rfl) (fun _ _ _ h => h) (Or.inl ⟨by rfl, ?tky4026⟩) hH4012 ?tkr4026
        case tky4026 => (intro w' hSw; clear hSw; go_simp; try with_reducible rfl)
        try simp only [Act.put, List.setIfInBounds_toArray, List.set_cons_zero, List.set_cons_succ]
        refine wpAnyH_done (by kernel_rfl) ?_ _
        refine NoPanic.normal ?_
        have E7 := Lib.hid (HE.out _ (hH4012))
        have B7 := Lib.hid (hH4012)
        go_upto_region 7 with fail
        have RQ7 := Lib.hid (R2.out.below B7.out)
        have RR7 := Lib.hid (RR.out.below B7.out)
        clear HE R2 RR B7
        obtain ⟨WQ, rfl⟩ : ∃ x : World, x = wn4012 := ⟨_, rfl⟩
        by_cases hq0 : nq = 0
        · subst hq0
          obtain rfl : PB = [] := List.eq_nil_of_length_eq_zero HNQ.out.symm
          go_upto_region 8 with (at_builtin; refine wpList_app rfl (.tmp 73) (.tmp 74) 23 rfl WQ.heap.size 5 i0 (.int .u8 0) 1 Try.underlying23 hi hz0 hz1 hz2 rfl _ 0 [] rfl (own_lit #[] rfl (Nat.le_refl _) rfl (by unfold maxLen; omega)) _ Aq 0 cq _ rfl (RQ7.out.row.alloc (Nat.le_refl _) _) (bv_one _) (by unfold maxLen; omega) (by omega) (by simp) ?_; intro v4 w4 hown4 hg4 hat4; obtain ⟨A4, c4, rfl, _⟩ := own_slice hown4)
          have hb4 : Below WQ.heap.size WQ w4 := below_new hg4
          have EB := Lib.hid (E7.out.below hb4)
          have RBb : Hid (RowP w4 (fun _ => True) A4 0 (bv [])) := Lib.hid (.nil _ _ _)
          have RRb := Lib.hid (RR7.out.below hb4)
          have HCB := Lib.hid (own_cap hown4)
          clear hown4 hg4 hat4 hb4 RQ7 RR7 E7
          generalize w4 = WB at *
          obtain ⟨AB, hAB⟩ : ∃ AB : Option Addr, AB = A4 := ⟨_, rfl⟩
          rw [← hAB] at RBb ⊢
          clear hAB
          generalize c4 = cB at *
          have HIDX : Hid (∀ k : Nat, k < 2 → ∃ Ay ny cy ly, RowP WB (fun _ => True) Ay ny (bv ly) ∧ ny ≤ cy ∧ cy ≤ 9223372036854775807 ∧
              ∀ w', (Instr.index 39 (.agg #[.slice AB 0 cB, .slice Ar nr cr]) (.int .i64 (k : Int))).run Try.prog w' = .ok (.slice Ay ny cy) w') := Lib.hid (by
            intro k hk
            match k, hk with
            | 0, _ => exact ⟨AB, 0, cB, _, RBb.out, HCB.out.1, HCB.out.2, fun w' => by kernel_rfl⟩
            | 1, _ => exact ⟨Ar, nr, cr, lr, RRb.out, HCR.out.1, HCR.out.2, fun w' => by kernel_rfl⟩)
          clear RBb RRb HCB
          have q0 : decide ((0 : Int) < 0) = false := by decide
          go_wp2_with fail
          go_loopw [105] (fun i wr => ∃ k : Nat, k ≤ 2 ∧ i = .int .i64 k ∧ Hid (Below WB.heap.size WB wr)) (fun i _ => 2 - (intOf i).toNat)
          case atStart => exact ⟨0, by omega, rfl, Lib.hid (Below.refl _ _)⟩
          case round =>
            obtain ⟨k, hk, rfl, hbx⟩ := hrel
            by_cases hlt : k < 2
            · obtain ⟨Ay, ny, cy, ly, hrowy, hny, hcy, hidx⟩ := HIDX.out k hlt
              have E0 := Lib.hid (EB.out.below hbx.out)
              have R0 := Lib.hid (hrowy.below hbx.out)
              have HNY := Lib.hid hny
              have HCY := Lib.hid hcy
              have HX := Lib.hid hbx.out
              clear hrowy hny hcy hbx
              go_wp2_with fail
              refine (parse_any Ay ny cy ly wr R0.out.row HNY.out HCY.out).mono ?_
              obtain ⟨pL, hpL⟩ : ∃ x, parseL ly = x := ⟨_, rfl⟩
              obtain ⟨pE, hpE⟩ : ∃ x, parseE ly = x := ⟨_, rfl⟩
              have HPL := Lib.hid hpL
              have HPE := Lib.hid hpE
              clear hpL hpE hidx
              unfold ParseOk
              rw [HPL.out, HPE.out]
              rintro e w1 ⟨m1, rfl, hm1, hb1⟩
              have bz1 := hb1.out.alloc hb1.out.size (.cells m1 30)
              have E1 := Lib.hid (((E0.out.below hb1.out).addSt hm1.out).alloc m1 30)
              have R1 := Lib.hid (R0.out.below bz1)
              have X1 := Lib.hid (HX.out.trans (bz1.mono HX.out.size))
              have I1 := Lib.hid hm1.out.inf
              have O1 := Lib.hid hm1.out.one
              have Z1 : Hid (17 = m1.size) := Lib.hid hm1.out.size.symm
              clear hb1 hm1 bz1 E0 HX
              go_upto_region 16 with ((with_reducible show wpList _ _ _ _ _ _); refine wpList_store_new rfl rfl _ (.tmp 21) (.tmp 111) rfl _ _ m1 _ rfl rfl I1.out Z1.out O1.out ?_)
              generalize w1.heap.size = g1 at E1 ⊢
              generalize w1.alloc (.cells m1 30) = w1b at *
              go_wp2_with fail
              refine (rps_any Ay ny cy ly w1b R1.out.row HNY.out HCY.out).mono ?_
              rw [HPL.out, HPE.out]
              rintro e w2 ⟨m2, rfl, hm2, hb2⟩
              have bz2 := hb2.out.alloc hb2.out.size (.cells m2 30)
              have E2 := Lib.hid (((E1.out.below hb2.out).addSt hm2.out).alloc m2 30)
              have R2 := Lib.hid (R1.out.below bz2)
              have X2 := Lib.hid (X1.out.trans (bz2.mono X1.out.size))
              have I2 := Lib.hid hm2.out.inf
              have O2 := Lib.hid hm2.out.one
              have Z2 : Hid (17 = m2.size) := Lib.hid hm2.out.size.symm
              clear hb2 hm2 bz2 E1 X1
              go_upto_region 17 with ((with_reducible show wpList _ _ _ _ _ _); refine wpList_store_new rfl rfl _ (.tmp 23) (.tmp 116) rfl _ _ m2 _ rfl rfl I2.out Z2.out O2.out ?_)
              generalize w2.heap.size = g2 at E2 ⊢
              generalize w2.alloc (.cells m2 30) = w2b at *
              clear HPL HPE HNY HCY R0 R2
              have nE1 : (pE != pE) = false := by simp
              go_wp2_with (first
                | ((with_reducible show wpList _ _ _ _ _ _); refine wpList_load_row (o := ⟨some 118, _, _, _, _, _⟩) rfl _ (.tmp 21) rfl (g1) rfl _ _ _ _ (E2.out.bx _ _ _ (.tail _ (.head _))) Try.underlying30 rfl I1.out ?_)
                | ((with_reducible show wpList _ _ _ _ _ _); refine wpList_load_row (o := ⟨some 119, _, _, _, _, _⟩) rfl _ (.tmp 23) rfl (g2) rfl _ _ _ _ (E2.out.bx _ _ _ (.head _)) Try.underlying30 rfl I2.out ?_))
              refine (rsameS (E2.out.st _ _ (.tail _ (.head _))) (E2.out.st _ _ (.head _))).mono ?_
              rw [eqb_refl]
              rintro e w5 ⟨rfl, hb5⟩
              have X5 := Lib.hid (X2.out.trans (hb5.mono X2.out.size))
              clear hb5 E2 X2
              go_wp2_with fail
              go_roundw
              case rel => exact ⟨k + 1, by omega, by go_num, X5⟩
              case measure => simp [intOf]; omega
            · have HBW := Lib.hid (EB.out.below hbx.out)
              clear hbx
              go_wp2_with fail
              refine (awake19_any _).mono ?_
              rintro e wz ⟨rfl, hbz⟩
              have hb := (HBW.out.below hbz).b
              go_wp2_with fail
              go_ret
              exact ⟨rfl, hb⟩
        have hL4 : nq ≤ 200 := HT2.out
        obtain ⟨iq, hiq, hKq⟩ := pick_in at_ (nq : Int) (by omega) (by omega)
        obtain ⟨jq, hjq, hKj⟩ := pick_in cut (nq : Int) (by omega) (by omega)
        have HKQ := Lib.hid hKq
        have HKJ := Lib.hid hKj
        go_upto_region 8 with (at_builtin; refine wpList_app rfl (.tmp 73) (.tmp 74) 23 rfl WQ.heap.size 5 i0 (.int .u8 0) 1 Try.underlying23 hi hz0 hz1 hz2 rfl _ 0 [] rfl (own_lit #[] rfl (Nat.le_refl _) rfl (by unfold maxLen; omega)) _ Aq nq cq _ rfl (RQ7.out.row.alloc (Nat.le_refl _) _) (bv_one _) (by unfold maxLen; omega) (by omega) (by simp) ?_; intro v4 w4 hown4 hg4 hat4; obtain ⟨A4, c4, rfl, _⟩ := own_slice hown4)
        have hb4 : Below WQ.heap.size WQ w4 := below_new hg4
        rw [List.nil_append] at hown4
        simp only [Nat.zero_add] at hown4
        obtain ⟨g, c4', hv, hg0, hglt⟩ := hown4.form (by omega)
        injection hv with e1 e2 e3
        subst e1 e3
        have hc4 := own_cap hown4
        have hcell : w4.cell? ⟨g, iq, none⟩ = _ := (hown4.cellAt iq (by omega)).trans (bv_getD PB iq (by have := HNQ.out; omega))
        have hown5 := (hown4.stored iq (.int .u8 (bits .xor .u8 ((PB.getD iq 0).toNat : Int) (x.toNat : Int)))).1
        rw [bv_bend3] at hown5
        have hfr := hown4.frozenAt iq
        generalize PB.getD iq 0 = u at *
        have hiq0 : (0 : Int) ≤ iq := by omega
        have hjj : ((nq : Int) - jq) ≤ 300 := by omega
        have hjj0 : 0 ≤ ((nq : Int) - jq) := by omega
        clear hKq hKj
        go_upto_region 11 with (rw [HKQ.out])
        go_upto_region 12 with (rw [HKJ.out])
        have hbs : Below WQ.heap.size WQ (w4.setCell ⟨g, iq, none⟩ (.int .u8 (bits .xor .u8 (u.toNat : Int) (x.toNat : Int)))) := hb4.setCell (p := ⟨g, iq, none⟩) hg0 _
        have EB := Lib.hid (E7.out.below hbs)
        have hrb := (Row.of_own hown5).head (k := nq - jq) (by omega)
        rw [bv_take] at hrb
        have RBb := Lib.hid (RowP.of_row hrb)
        have RRb := Lib.hid (RR7.out.below hbs)
        have HCB : Hid (nq - jq ≤ c4 ∧ c4 ≤ 9223372036854775807) := Lib.hid ⟨by omega, hc4.2⟩
        clear hown4 hown5 hg4 hat4 hb4 RQ7 RR7 E7 hcell hfr hc4 hbs hrb
        generalize w4.setCell ⟨g, iq, none⟩ (.int .u8 (bits .xor .u8 (u.toNat : Int) (x.toNat : Int))) = WB at *
        obtain ⟨AB, hAB⟩ : ∃ AB : Option Addr, AB = some ⟨g, 0, none⟩ := ⟨_, rfl⟩
        rw [← hAB] at RBb ⊢
        clear hAB hiq0 hiq hg0 hglt
        generalize c4 = cB at *
        generalize hm5 : nq - jq = m5 at *
        clear hm5
        have HIDX : Hid (∀ k : Nat, k < 2 → ∃ Ay ny cy ly, RowP WB (fun _ => True) Ay ny (bv ly) ∧ ny ≤ cy ∧ cy ≤ 9223372036854775807 ∧
            ∀ w', (Instr.index 39 (.agg #[.slice AB m5 cB, .slice Ar nr cr]) (.int .i64 (k : Int))).run Try.prog w' = .ok (.slice Ay ny cy) w') := Lib.hid (by
          intro k hk
          match k, hk with
          | 0, _ => exact ⟨AB, m5, cB, _, RBb.out, HCB.out.1, HCB.out.2, fun w' => by kernel_rfl⟩
          | 1, _ => exact ⟨Ar, nr, cr, lr, RRb.out, HCR.out.1, HCR.out.2, fun w' => by kernel_rfl⟩)
        clear RBb RRb HCB
        go_wp2_with fail
        go_loopw [105] (fun i wr => ∃ k : Nat, k ≤ 2 ∧ i = .int .i64 k ∧ Hid (Below WB.heap.size WB wr)) (fun i _ => 2 - (intOf i).toNat)
        case atStart => exact ⟨0, by omega, rfl, Lib.hid (Below.refl _ _)⟩
        case round =>
          obtain ⟨k, hk, rfl, hbx⟩ := hrel
          by_cases hlt : k < 2
          · obtain ⟨Ay, ny, cy, ly, hrowy, hny, hcy, hidx⟩ := HIDX.out k hlt
            have E0 := Lib.hid (EB.out.below hbx.out)
            have R0 := Lib.hid (hrowy.below hbx.out)
            have HNY := Lib.hid hny
            have HCY := Lib.hid hcy
            have HX := Lib.hid hbx.out
            clear hrowy hny hcy hbx
            go_wp2_with fail
            refine (parse_any Ay ny cy ly wr R0.out.row HNY.out HCY.out).mono ?_
            obtain ⟨pL, hpL⟩ : ∃ x, parseL ly = x := ⟨_, rfl⟩
            obtain ⟨pE, hpE⟩ : ∃ x, parseE ly = x := ⟨_, rfl⟩
            have HPL := Lib.hid hpL
            have HPE := Lib.hid hpE
            clear hpL hpE hidx
            unfold ParseOk
            rw [HPL.out, HPE.out]
            rintro e w1 ⟨m1, rfl, hm1, hb1⟩
            have bz1 := hb1.out.alloc hb1.out.size (.cells m1 30)
            have E1 := Lib.hid (((E0.out.below hb1.out).addSt hm1.out).alloc m1 30)
            have R1 := Lib.hid (R0.out.below bz1)
            have X1 := Lib.hid (HX.out.trans (bz1.mono HX.out.size))
            have I1 := Lib.hid hm1.out.inf
            have O1 := Lib.hid hm1.out.one
            have Z1 : Hid (17 = m1.size) := Lib.hid hm1.out.size.symm
            clear hb1 hm1 bz1 E0 HX
            go_upto_region 16 with ((with_reducible show wpList _ _ _ _ _ _); refine wpList_store_new rfl rfl _ (.tmp 21) (.tmp 111) rfl _ _ m1 _ rfl rfl I1.out Z1.out O1.out ?_)
            generalize w1.heap.size = g1 at E1 ⊢
            generalize w1.alloc (.cells m1 30) = w1b at *
            go_wp2_with fail
            refine (rps_any Ay ny cy ly w1b R1.out.row HNY.out HCY.out).mono ?_
            rw [HPL.out, HPE.out]
            rintro e w2 ⟨m2, rfl, hm2, hb2⟩
            have bz2 := hb2.out.alloc hb2.out.size (.cells m2 30)
            have E2 := Lib.hid (((E1.out.below hb2.out).addSt hm2.out).alloc m2 30)
            have R2 := Lib.hid (R1.out.below bz2)
            have X2 := Lib.hid (X1.out.trans (bz2.mono X1.out.size))
            have I2 := Lib.hid hm2.out.inf
            have O2 := Lib.hid hm2.out.one
            have Z2 : Hid (17 = m2.size) := Lib.hid hm2.out.size.symm
            clear hb2 hm2 bz2 E1 X1
            go_upto_region 17 with ((with_reducible show wpList _ _ _ _ _ _); refine wpList_store_new rfl rfl _ (.tmp 23) (.tmp 116) rfl _ _ m2 _ rfl rfl I2.out Z2.out O2.out ?_)
            generalize w2.heap.size = g2 at E2 ⊢
            generalize w2.alloc (.cells m2 30) = w2b at *
            clear HPL HPE HNY HCY R0 R2
            have nE1 : (pE != pE) = false := by simp
            go_wp2_with (first
              | ((with_reducible show wpList _ _ _ _ _ _); refine wpList_load_row (o := ⟨some 118, _, _, _, _, _⟩) rfl _ (.tmp 21) rfl (g1) rfl _ _ _ _ (E2.out.bx _ _ _ (.tail _ (.head _))) Try.underlying30 rfl I1.out ?_)
              | ((with_reducible show wpList _ _ _ _ _ _); refine wpList_load_row (o := ⟨some 119, _, _, _, _, _⟩) rfl _ (.tmp 23) rfl (g2) rfl _ _ _ _ (E2.out.bx _ _ _ (.head _)) Try.underlying30 rfl I2.out ?_))
            refine (rsameS (E2.out.st _ _ (.tail _ (.head _))) (E2.out.st _ _ (.head _))).mono ?_
            rw [eqb_refl]
            rintro e w5 ⟨rfl, hb5⟩
            have X5 := Lib.hid (X2.out.trans (hb5.mono X2.out.size))
            clear hb5 E2 X2
            go_wp2_with fail
            go_roundw
            case rel => exact ⟨k + 1, by omega, by go_num, X5⟩
            case measure => simp [intOf]; omega
          · have HBW := Lib.hid (EB.out.below hbx.out)
            clear hbx
            go_wp2_with fail
            refine (awake19_any _).mono ?_
            rintro e wz ⟨rfl, hbz⟩
            have hb := (HBW.out.below hbz).b
            go_wp2_with fail
            go_ret
            exact ⟨rfl, hb⟩
    · have HLB := Lib.hid hlb
      clear hla hlb
      go_cut [35] (fun s35 wx => s35 = .bool true ∧ Hid (Env w wx [((w.heap.size + 1), ds, 30), (w.heap.size, cs, 30)] [(ds, K), (cs, L)] []))
      case first =>
        refine wp_region_noPanic ?_
        refine wp_region_held_drew (S := (fun W => Below (w0.heap.size) w0 W)) (by kernel_rfl) (Below.refl _ _).drew (fun hH0 => ?_)
        have hH0 : Below (w0.heap.size) w0 w0.drew := hH0
        generalize w0.drew = wd5000 at *
        refine wpAnyH_take (i := 0) (oi := { dst := some 25, op := Op.load 30 (Operand.tmp 6), type := 30, pos := "law.go:32", after := #[], guard := none }) (v := .agg cs) rfl (by kernel_rfl) (by kernel_rfl) (by kernel_rfl) (fun _ _ _ h => h) (yields_row (by rfl) _ _ rfl (w.heap.size) rfl _ _ _ _ (fun W hW => (HE.out W hW).bx _ _ _ (.tail _ (.head _))) Try.underlying30 rfl IA.out) hH0 ?tkr5001
        try simp only [Act.put, List.setIfInBounds_toArray, List.set_cons_zero, List.set_cons_succ]
        refine wpAnyH_take (i := 2) (oi := { dst := some 27, op := Op.load 30 (Operand.tmp 7), type := 30, pos := "law.go:32", after := #[], guard := none }) (v := .agg ds) rfl (by kernel_rfl) (by kernel_rfl) (by kernel_rfl) (fun _ _ _ h => h) (yields_row (by rfl) _ _ rfl ((w.heap.size + 1)) rfl _ _ _ _ (fun W hW => (HE.out W hW).bx _ _ _ (.head _)) Try.underlying30 rfl IB.out) hH0 ?tkr5002
        try simp only [Act.put, List.setIfInBounds_toArray, List.set_cons_zero, List.set_cons_succ]
        refine wpAnyH_ready (rs := [1]) (by kernel_rfl) (by simp) ?_
        refine AllReadyH.cons (o := { dst := some 26, op := Op.call { callee := Callee.value (Operand.func 5), args := #[Operand.tmp 25], argTypes := #[30] }, type := 3, pos := "law.go:32", after := #[{ on := 0, ground := Ground.data }], guard := none }) rfl (fun K hK => ?_) AllReadyH.nil
        go_simp
        refine (heavyS_no ((HE.out wd5000 (hH0)).st _ _ (.tail _ (.head _))) HLA.out).mono ?_
        rintro e' wn5003 ⟨rfl, hb5003⟩
        go_simp
        have hS5003 : Below (w0.heap.size) w0 wn5003 := (hH0).trans (hb5003.mono (hH0).size)
        refine hK.out _ _ hS5003 (fun hH5003 => ?_)
        have hH5003 : Below (w0.heap.size) w0 wn5003 := hH5003
        clear hK K hS5003
        try simp only [Act.put, List.setIfInBounds_toArray, List.set_cons_zero, List.set_cons_succ]
        refine wpAnyH_ready (rs := [3]) (by kernel_rfl) (by simp) ?_
        refine AllReadyH.cons (o := { dst := some 28, op := Op.call { callee := Callee.value (Operand.func 5), args := #[Operand.tmp 27], argTypes := #[30] }, type := 3, pos := "law.go:32", after := #[{ on := 2, ground := Ground.data }, { on := 1, ground := Ground.chain }], guard := none }) rfl (fun K hK => ?_) AllReadyH.nil
        go_simp
        refine (heavyS_yes ((HE.out wn5003 (hH5003)).st _ _ (.head _)) HLB.out).mono ?_
        rintro e' wn5004 ⟨rfl, hb5004⟩
        go_simp
        have hS5004 : Below (w0.heap.size) w0 wn5004 := (hH5003).trans (hb5004.mono (hH5003).size)
        refine hK.out _ _ hS5004 (fun hH5004 => ?_)
        have hH5004 : Below (w0.heap.size) w0 wn5004 := hH5004
        clear hK K hS5004
        try simp only [Act.put, List.setIfInBounds_toArray, List.set_cons_zero, List.set_cons_succ]
        refine wpAnyH_take (i := 4) (oi := { dst := some 29, op := Op.binOp BinOp.add 3 (Operand.tmp 26) (Operand.tmp 28) 3, type := 3, pos := "law.go:32", after := #[{ on := 1, ground := Ground.data }, { on := 3, ground := Ground.data }], guard := none }) (v := ?tkv5005) rfl (by kernel_rfl) (by kernel_rfl) (by kernel_rfl) (fun _ _ _ h => h) (Or.inl ⟨by rfl, ?tky5005⟩) hH5004 ?tkr5005
        case tky5005 => (intro w' hSw; clear hSw; go_simp; try with_reducible rfl)
        try simp only [Act.put, List.setIfInBounds_toArray, List.set_cons_zero, List.set_cons_succ]
        refine wpAnyH_take (i := 5) (oi := { dst := some 30, op := Op.binOp BinOp.gtr 3 (Operand.tmp 29) (Operand.const (Value.int IntKind.i64 0)) 3, type := 4, pos := "law.go:32", after := #[{ on := 4, ground := Ground.data }], guard := none }) (v := ?tkv5006) rfl (by kernel_rfl) (by kernel_rfl) (by kernel_rfl) (fun _ _ _ h => h) (Or.inl ⟨by rfl, ?tky5006⟩) hH5004 ?tkr5006
        case tky5006 => (intro w' hSw; clear hSw; go_simp; try with_reducible rfl)
        try simp only [Act.put, List.setIfInBounds_toArray, List.set_cons_zero, List.set_cons_succ]
        refine wpAnyH_take (i := 6) (oi := { dst := some 31, op := Op.move (Operand.tmp 30), type := 4, pos := "law.go:32", after := #[{ on := 5, ground := Ground.data }, { on := 3, ground := Ground.chain }], guard := none }) (v := ?tkv5007) rfl (by kernel_rfl) (by kernel_rfl) (by kernel_rfl) (fun _ _ _ h => h) (Or.inl ⟨by rfl, ?tky5007⟩) hH5004 ?tkr5007
        case tky5007 => (intro w' hSw; clear hSw; go_simp; try with_reducible rfl)
        try simp only [Act.put, List.setIfInBounds_toArray, List.set_cons_zero, List.set_cons_succ]
        refine wpAnyH_take (i := 7) (oi := { dst := some 32, op := Op.move (Operand.tmp 2), type := 23, pos := "law.go:32", after := #[{ on := 6, ground := Ground.guard }], guard := some (6, false) }) (v := undef) rfl (by kernel_rfl) (by kernel_rfl) (by kernel_rfl) (fun _ _ _ h => h) (Or.inr ⟨by rfl, rfl⟩) hH5004 ?tkr5008
        try simp only [Act.put, List.setIfInBounds_toArray, List.set_cons_zero, List.set_cons_succ]
        refine wpAnyH_take (i := 8) (oi := { dst := some 33, op := Op.call { callee := Callee.builtin Builtin.len, args := #[Operand.tmp 32], argTypes := #[23] }, type := 3, pos := "law.go:32", after := #[{ on := 7, ground := Ground.data }, { on := 6, ground := Ground.guard }], guard := some (6, false) }) (v := undef) rfl (by kernel_rfl) (by kernel_rfl) (by kernel_rfl) (fun _ _ _ h => h) (Or.inr ⟨by rfl, rfl⟩) hH5004 ?tkr5009
        try simp only [Act.put, List.setIfInBounds_toArray, List.set_cons_zero, List.set_cons_succ]
        refine wpAnyH_take (i := 9) (oi := { dst := some 34, op := Op.binOp BinOp.gtr 3 (Operand.tmp 33) (Operand.const (Value.int IntKind.i64 300)) 3, type := 4, pos := "law.go:32", after := #[{ on := 8, ground := Ground.data }, { on := 6, ground := Ground.guard }], guard := some (6, false) }) (v := undef) rfl (by kernel_rfl) (by kernel_rfl) (by kernel_rfl) (fun _ _ _ h => h) (Or.inr ⟨by rfl, rfl⟩) hH5004 ?tkr5010
        try simp only [Act.put, List.setIfInBounds_toArray, List.set_cons_zero, List.set_cons_succ]
        refine wpAnyH_take (i := 10) (oi := { dst := some 35, op := Op.pick (Operand.tmp 31) (Operand.const (Value.bool true)) (Operand.tmp 34), type := 4, pos := "law.go:32", after := #[{ on := 6, ground := Ground.data }, { on := 9, ground := Ground.data }], guard := none }) (v := ?tkv5011) rfl (by kernel_rfl) (by kernel_rfl) (by kernel_rfl) (fun _ _ _ h => h) (Or.inl ⟨by rfl, ?tky5011⟩) hH5004 ?tkr5011
        case tky5011 => (intro w' hSw; clear hSw; go_simp; try with_reducible rfl)
        try simp only [Act.put, List.setIfInBounds_toArray, List.set_cons_zero, List.set_cons_succ]
        refine wpAnyH_done (by kernel_rfl) ?_ _
        refine NoPanic.normal ?_
        have HEND := Lib.hid (HE.out _ (hH5004))
        go_wp2_with fail
        go_meet
        exact ⟨rfl, HEND⟩
      case rest =>
        obtain ⟨rfl, HE2⟩ := hcut
        go_wp2_with fail
        refine (awake19_any _).mono ?_
        rintro e wz ⟨rfl, hbz⟩
        have hb := (HE2.out.below hbz).b
        go_wp2_with fail
        go_ret
        exact ⟨rfl, hb⟩
  · have HLA := Lib.hid hla
    by_cases hlb : K.light
    · have HLB := Lib.hid hlb
      clear hla hlb
      go_cut [35] (fun s35 wx => s35 = .bool true ∧ Hid (Env w wx [((w.heap.size + 1), ds, 30), (w.heap.size, cs, 30)] [(ds, K), (cs, L)] []))
      case first =>
        refine wp_region_noPanic ?_
        refine wp_region_held_drew (S := (fun W => Below (w0.heap.size) w0 W)) (by kernel_rfl) (Below.refl _ _).drew (fun hH0 => ?_)
        have hH0 : Below (w0.heap.size) w0 w0.drew := hH0
        generalize w0.drew = wd6000 at *
        refine wpAnyH_take (i := 0) (oi := { dst := some 25, op := Op.load 30 (Operand.tmp 6), type := 30, pos := "law.go:32", after := #[], guard := none }) (v := .agg cs) rfl (by kernel_rfl) (by kernel_rfl) (by kernel_rfl) (fun _ _ _ h => h) (yields_row (by rfl) _ _ rfl (w.heap.size) rfl _ _ _ _ (fun W hW => (HE.out W hW).bx _ _ _ (.tail _ (.head _))) Try.underlying30 rfl IA.out) hH0 ?tkr6001
        try simp only [Act.put, List.setIfInBounds_toArray, List.set_cons_zero, List.set_cons_succ]
        refine wpAnyH_take (i := 2) (oi := { dst := some 27, op := Op.load 30 (Operand.tmp 7), type := 30, pos := "law.go:32", after := #[], guard := none }) (v := .agg ds) rfl (by kernel_rfl) (by kernel_rfl) (by kernel_rfl) (fun _ _ _ h => h) (yields_row (by rfl) _ _ rfl ((w.heap.size + 1)) rfl _ _ _ _ (fun W hW => (HE.out W hW).bx _ _ _ (.head _)) Try.underlying30 rfl IB.out) hH0 ?tkr6002
        try simp only [Act.put, List.setIfInBounds_toArray, List.set_cons_zero, List.set_cons_succ]
        refine wpAnyH_ready (rs := [1]) (by kernel_rfl) (by simp) ?_
        refine AllReadyH.cons (o := { dst := some 26, op := Op.call { callee := Callee.value (Operand.func 5), args := #[Operand.tmp 25], argTypes := #[30] }, type := 3, pos := "law.go:32", after := #[{ on := 0, ground := Ground.data }], guard := none }) rfl (fun K hK => ?_) AllReadyH.nil
        go_simp
        refine (heavyS_yes ((HE.out wd6000 (hH0)).st _ _ (.tail _ (.head _))) HLA.out).mono ?_
        rintro e' wn6003 ⟨rfl, hb6003⟩
        go_simp
        have hS6003 : Below (w0.heap.size) w0 wn6003 := (hH0).trans (hb6003.mono (hH0).size)
        refine hK.out _ _ hS6003 (fun hH6003 => ?_)
        have hH6003 : Below (w0.heap.size) w0 wn6003 := hH6003
        clear hK K hS6003
        try simp only [Act.put, List.setIfInBounds_toArray, List.set_cons_zero, List.set_cons_succ]
        refine wpAnyH_ready (rs := [3]) (by kernel_rfl) (by simp) ?_
        refine AllReadyH.cons (o := { dst := some 28, op := Op.call { callee := Callee.value (Operand.func 5), args := #[Operand.tmp 27], argTypes := #[30] }, type := 3, pos := "law.go:32", after := #[{ on := 2, ground := Ground.data }, { on := 1, ground := Ground.chain }], guard := none }) rfl (fun K hK => ?_) AllReadyH.nil
        go_simp
        refine (heavyS_no ((HE.out wn6003 (hH6003)).st _ _ (.head _)) HLB.out).mono ?_
        rintro e' wn6004 ⟨rfl, hb6004⟩
        go_simp
        have hS6004 : Below (w0.heap.size) w0 wn6004 := (hH6003).trans (hb6004.mono (hH6003).size)
        refine hK.out _ _ hS6004 (fun hH6004 => ?_)
        have hH6004 : Below (w0.heap.size) w0 wn6004 := hH6004
        clear hK K hS6004
        try simp only [Act.put, List.setIfInBounds_toArray, List.set_cons_zero, List.set_cons_succ]
        refine wpAnyH_take (i := 4) (oi := { dst := some 29, op := Op.binOp BinOp.add 3 (Operand.tmp 26) (Operand.tmp 28) 3, type := 3, pos := "law.go:32", after := #[{ on := 1, ground := Ground.data }, { on := 3, ground := Ground.data }], guard := none }) (v := ?tkv6005) rfl (by kernel_rfl) (by kernel_rfl) (by kernel_rfl) (fun _ _ _ h => h) (Or.inl ⟨by rfl, ?tky6005⟩) hH6004 ?tkr6005
        case tky6005 => (intro w' hSw; clear hSw; go_simp; try with_reducible rfl)
        try simp only [Act.put, List.setIfInBounds_toArray, List.set_cons_zero, List.set_cons_succ]
        refine wpAnyH_take (i := 5) (oi := { dst := some 30, op := Op.binOp BinOp.gtr 3 (Operand.tmp 29) (Operand.const (Value.int IntKind.i64 0)) 3, type := 4, pos := "law.go:32", after := #[{ on := 4, ground := Ground.data }], guard := none }) (v := ?tkv6006) rfl (by kernel_rfl) (by kernel_rfl) (by kernel_rfl) (fun _ _ _ h => h) (Or.inl ⟨by rfl, ?tky6006⟩) hH6004 ?tkr6006
        case tky6006 => (intro w' hSw; clear hSw; go_simp; try with_reducible rfl)
        try simp only [Act.put, List.setIfInBounds_toArray, List.set_cons_zero, List.set_cons_succ]
        refine wpAnyH_take (i := 6) (oi := { dst := some 31, op := Op.move (Operand.tmp 30), type := 4, pos := "law.go:32", after := #[{ on := 5, ground := Ground.data }, { on := 3, ground := Ground.chain }], guard := none }) (v := ?tkv6007) rfl (by kernel_rfl) (by kernel_rfl) (by kernel_rfl) (fun _ _ _ h => h) (Or.inl ⟨by rfl, ?tky6007⟩) hH6004 ?tkr6007
        case tky6007 => (intro w' hSw; clear hSw; go_simp; try with_reducible rfl)
        try simp only [Act.put, List.setIfInBounds_toArray, List.set_cons_zero, List.set_cons_succ]
        refine wpAnyH_take (i := 7) (oi := { dst := some 32, op := Op.move (Operand.tmp 2), type := 23, pos := "law.go:32", after := #[{ on := 6, ground := Ground.guard }], guard := some (6, false) }) (v := undef) rfl (by kernel_rfl) (by kernel_rfl) (by kernel_rfl) (fun _ _ _ h => h) (Or.inr ⟨by rfl, rfl⟩) hH6004 ?tkr6008
        try simp only [Act.put, List.setIfInBounds_toArray, List.set_cons_zero, List.set_cons_succ]
        refine wpAnyH_take (i := 8) (oi := { dst := some 33, op := Op.call { callee := Callee.builtin Builtin.len, args := #[Operand.tmp 32], argTypes := #[23] }, type := 3, pos := "law.go:32", after := #[{ on := 7, ground := Ground.data }, { on := 6, ground := Ground.guard }], guard := some (6, false) }) (v := undef) rfl (by kernel_rfl) (by kernel_rfl) (by kernel_rfl) (fun _ _ _ h => h) (Or.inr ⟨by rfl, rfl⟩) hH6004 ?tkr6009
        try simp only [Act.put, List.setIfInBounds_toArray, List.set_cons_zero, List.set_cons_succ]
        refine wpAnyH_take (i := 9) (oi := { dst := some 34, op := Op.binOp BinOp.gtr 3 (Operand.tmp 33) (Operand.const (Value.int IntKind.i64 300)) 3, type := 4, pos := "law.go:32", after := #[{ on := 8, ground := Ground.data }, { on := 6, ground := Ground.guard }], guard := some (6, false) }) (v := undef) rfl (by kernel_rfl) (by kernel_rfl) (by kernel_rfl) (fun _ _ _ h => h) (Or.inr ⟨by rfl, rfl⟩) hH6004 ?tkr6010
        try simp only [Act.put, List.setIfInBounds_toArray, List.set_cons_zero, List.set_cons_succ]
        refine wpAnyH_take (i := 10) (oi := { dst := some 35, op := Op.pick (Operand.tmp 31) (Operand.const (Value.bool true)) (Operand.tmp 34), type := 4, pos := "law.go:32", after := #[{ on := 6, ground := Ground.data }, { on := 9, ground := Ground.data }], guard := none }) (v := ?tkv6011) rfl (by kernel_rfl) (by kernel_rfl) (by kernel_rfl) (fun _ _ _ h => h) (Or.inl ⟨by rfl, ?tky6011⟩) hH6004 ?tkr6011
        case tky6011 => (intro w' hSw; clear hSw; go_simp; try with_reducible rfl)
        try simp only [Act.put, List.setIfInBounds_toArray, List.set_cons_zero, List.set_cons_succ]
        refine wpAnyH_done (by kernel_rfl) ?_ _
        refine NoPanic.normal ?_
        have HEND := Lib.hid (HE.out _ (hH6004))
        go_wp2_with fail
        go_meet
        exact ⟨rfl, HEND⟩
      case rest =>
        obtain ⟨rfl, HE2⟩ := hcut
        go_wp2_with fail
        refine (awake19_any _).mono ?_
        rintro e wz ⟨rfl, hbz⟩
        have hb := (HE2.out.below hbz).b
        go_wp2_with fail
        go_ret
        exact ⟨rfl, hb⟩
    · have HLB := Lib.hid hlb
      clear hla hlb
      go_cut [35] (fun s35 wx => s35 = .bool true ∧ Hid (Env w wx [((w.heap.size + 1), ds, 30), (w.heap.size, cs, 30)] [(ds, K), (cs, L)] []))
      case first =>
        refine wp_region_noPanic ?_
        refine wp_region_held_drew (S := (fun W => Below (w0.heap.size) w0 W)) (by kernel_rfl) (Below.refl _ _).drew (fun hH0 => ?_)
        have hH0 : Below (w0.heap.size) w0 w0.drew := hH0
        generalize w0.drew = wd7000 at *
        refine wpAnyH_take (i := 0) (oi := { dst := some 25, op := Op.load 30 (Operand.tmp 6), type := 30, pos := "law.go:32", after := #[], guard := none }) (v := .agg cs) rfl (by kernel_rfl) (by kernel_rfl) (by kernel_rfl) (fun _ _ _ h => h) (yields_row (by rfl) _ _ rfl (w.heap.size) rfl _ _ _ _ (fun W hW => (HE.out W hW).bx _ _ _ (.tail _ (.head _))) Try.underlying30 rfl IA.out) hH0 ?tkr7001
        try simp only [Act.put, List.setIfInBounds_toArray, List.set_cons_zero, List.set_cons_succ]
        refine wpAnyH_take (i := 2) (oi := { dst := some 27, op := Op.load 30 (Operand.tmp 7), type := 30, pos := "law.go:32", after := #[], guard := none }) (v := .agg ds) rfl (by kernel_rfl) (by kernel_rfl) (by kernel_rfl) (fun _ _ _ h => h) (yields_row (by rfl) _ _ rfl ((w.heap.size + 1)) rfl _ _ _ _ (fun W hW => (HE.out W hW).bx _ _ _ (.head _)) Try.underlying30 rfl IB.out) hH0 ?tkr7002
        try simp only [Act.put, List.setIfInBounds_toArray, List.set_cons_zero, List.set_cons_succ]
        refine wpAnyH_ready (rs := [1]) (by kernel_rfl) (by simp) ?_
        refine AllReadyH.cons (o := { dst := some 26, op := Op.call { callee := Callee.value (Operand.func 5), args := #[Operand.tmp 25], argTypes := #[30] }, type := 3, pos := "law.go:32", after := #[{ on := 0, ground := Ground.data }], guard := none }) rfl (fun K hK => ?_) AllReadyH.nil
        go_simp
        refine (heavyS_yes ((HE.out wd7000 (hH0)).st _ _ (.tail _ (.head _))) HLA.out).mono ?_
        rintro e' wn7003 ⟨rfl, hb7003⟩
        go_simp
        have hS7003 : Below (w0.heap.size) w0 wn7003 := (hH0).trans (hb7003.mono (hH0).size)
        refine hK.out _ _ hS7003 (fun hH7003 => ?_)
        have hH7003 : Below (w0.heap.size) w0 wn7003 := hH7003
        clear hK K hS7003
        try simp only [Act.put, List.setIfInBounds_toArray, List.set_cons_zero, List.set_cons_succ]
        refine wpAnyH_ready (rs := [3]) (by kernel_rfl) (by simp) ?_
        refine AllReadyH.cons (o := { dst := some 28, op := Op.call { callee := Callee.value (Operand.func 5), args := #[Operand.tmp 27], argTypes := #[30] }, type := 3, pos := "law.go:32", after := #[{ on := 2, ground := Ground.data }, { on := 1, ground := Ground.chain }], guard := none }) rfl (fun K hK => ?_) AllReadyH.nil
        go_simp
        refine (heavyS_yes ((HE.out wn7003 (hH7003)).st _ _ (.head _)) HLB.out).mono ?_
        rintro e' wn7004 ⟨rfl, hb7004⟩
        go_simp
        have hS7004 : Below (w0.heap.size) w0 wn7004 := (hH7003).trans (hb7004.mono (hH7003).size)
        refine hK.out _ _ hS7004 (fun hH7004 => ?_)
        have hH7004 : Below (w0.heap.size) w0 wn7004 := hH7004
        clear hK K hS7004
        try simp only [Act.put, List.setIfInBounds_toArray, List.set_cons_zero, List.set_cons_succ]
        refine wpAnyH_take (i := 4) (oi := { dst := some 29, op := Op.binOp BinOp.add 3 (Operand.tmp 26) (Operand.tmp 28) 3, type := 3, pos := "law.go:32", after := #[{ on := 1, ground := Ground.data }, { on := 3, ground := Ground.data }], guard := none }) (v := ?tkv7005) rfl (by kernel_rfl) (by kernel_rfl) (by kernel_rfl) (fun _ _ _ h => h) (Or.inl ⟨by rfl, ?tky7005⟩) hH7004 ?tkr7005
        case tky7005 => (intro w' hSw; clear hSw; go_simp; try with_reducible rfl)
        try simp only [Act.put, List.setIfInBounds_toArray, List.set_cons_zero, List.set_cons_succ]
        refine wpAnyH_take (i := 5) (oi := { dst := some 30, op := Op.binOp BinOp.gtr 3 (Operand.tmp 29) (Operand.const (Value.int IntKind.i64 0)) 3, type := 4, pos := "law.go:32", after := #[{ on := 4, ground := Ground.data }], guard := none }) (v := ?tkv7006) rfl (by kernel_rfl) (by kernel_rfl) (by kernel_rfl) (fun _ _ _ h => h) (Or.inl ⟨by rfl, ?tky7006⟩) hH7004 ?tkr7006
        case tky7006 => (intro w' hSw; clear hSw; go_simp; try with_reducible rfl)
        try simp only [Act.put, List.setIfInBounds_toArray, List.set_cons_zero, List.set_cons_succ]
        refine wpAnyH_take (i := 6) (oi := { dst := some 31, op := Op.move (Operand.tmp 30), type := 4, pos := "law.go:32", after := #[{ on := 5, ground := Ground.data }, { on := 3, ground := Ground.chain }], guard := none }) (v := ?tkv7007) rfl (by kernel_rfl) (by kernel_rfl) (by kernel_rfl) (fun _ _ _ h => h) (Or.inl ⟨by rfl, ?tky7007⟩) hH7004 ?tkr7007
        case tky7007 => (intro w' hSw; clear hSw; go_simp; try with_reducible rfl)
        try simp only [Act.put, List.setIfInBounds_toArray, List.set_cons_zero, List.set_cons_succ]
        refine wpAnyH_take (i := 7) (oi := { dst := some 32, op := Op.move (Operand.tmp 2), type := 23, pos := "law.go:32", after := #[{ on := 6, ground := Ground.guard }], guard := some (6, false) }) (v := undef) rfl (by kernel_rfl) (by kernel_rfl) (by kernel_rfl) (fun _ _ _ h => h) (Or.inr ⟨by rfl, rfl⟩) hH7004 ?tkr7008
        try simp only [Act.put, List.setIfInBounds_toArray, List.set_cons_zero, List.set_cons_succ]
        refine wpAnyH_take (i := 8) (oi := { dst := some 33, op := Op.call { callee := Callee.builtin Builtin.len, args := #[Operand.tmp 32], argTypes := #[23] }, type := 3, pos := "law.go:32", after := #[{ on := 7, ground := Ground.data }, { on := 6, ground := Ground.guard }], guard := some (6, false) }) (v := undef) rfl (by kernel_rfl) (by kernel_rfl) (by kernel_rfl) (fun _ _ _ h => h) (Or.inr ⟨by rfl, rfl⟩) hH7004 ?tkr7009
        try simp only [Act.put, List.setIfInBounds_toArray, List.set_cons_zero, List.set_cons_succ]
        refine wpAnyH_take (i := 9) (oi := { dst := some 34, op := Op.binOp BinOp.gtr 3 (Operand.tmp 33) (Operand.const (Value.int IntKind.i64 300)) 3, type := 4, pos := "law.go:32", after := #[{ on := 8, ground := Ground.data }, { on := 6, ground := Ground.guard }], guard := some (6, false) }) (v := undef) rfl (by kernel_rfl) (by kernel_rfl) (by kernel_rfl) (fun _ _ _ h => h) (Or.inr ⟨by rfl, rfl⟩) hH7004 ?tkr7010
        try simp only [Act.put, List.setIfInBounds_toArray, List.set_cons_zero, List.set_cons_succ]
        refine wpAnyH_take (i := 10) (oi := { dst := some 35, op := Op.pick (Operand.tmp 31) (Operand.const (Value.bool true)) (Operand.tmp 34), type := 4, pos := "law.go:32", after := #[{ on := 6, ground := Ground.data }, { on := 9, ground := Ground.data }], guard := none }) (v := ?tkv7011) rfl (by kernel_rfl) (by kernel_rfl) (by kernel_rfl) (fun _ _ _ h => h) (Or.inl ⟨by rfl, ?tky7011⟩) hH7004 ?tkr7011
        case tky7011 => (intro w' hSw; clear hSw; go_simp; try with_reducible rfl)
        try simp only [Act.put, List.setIfInBounds_toArray, List.set_cons_zero, List.set_cons_succ]
        refine wpAnyH_done (by kernel_rfl) ?_ _
        refine NoPanic.normal ?_
        have HEND := Lib.hid (HE.out _ (hH7004))
        go_wp2_with fail
        go_meet
        exact ⟨rfl, HEND⟩
      case rest =>
        obtain ⟨rfl, HE2⟩ := hcut
        go_wp2_with fail
        refine (awake19_any _).mono ?_
        rintro e wz ⟨rfl, hbz⟩
        have hb := (HE2.out.below hbz).b
        go_wp2_with fail
        go_ret
        exact ⟨rfl, hb⟩
end
section
open Go.ChangeShapes Go.WideShapes Go.ChangeAt Go.RowKit
set_option maxRecDepth 100000 in
theorem stateForms_lifted (os : Os) (started : os.Started) (H : Type) (enc : TypeId × Value → H) :
    ReturnsInHanded {} Try.checked os 3 .any (Rows.stateFormsSpec.pre6 enc Try.prog Try.f3 Rows.stateFormsRow.domain false) (Rows.stateFormsSpec.post enc Try.prog Try.f3 false true false false) := by
  refine law_lift (C := Try.checked) (tb := 4) Try.own started (by kernel_rfl) Try.func3
    (ChangeSpec.witness6 (enc := enc) (C := Try.checked) false ⟨#[], #[.agg #[.int .i64 0, .int .i64 0, .int .u32 0, .int .u32 0, .int .u32 0, .int .i64 0, .slice none 0 0, .int .u32 0, .int .i64 0, .slice none 0 0, .bool false, .int .u32 0, .int .u32 0, .int .i64 0, .int .i64 0, .int .i64 0, .slice none 0 0], .agg #[.int .i64 0, .int .i64 0, .int .u32 0, .int .u32 0, .int .u32 0, .int .i64 0, .slice none 0 0, .int .u32 0, .int .i64 0, .slice none 0 0, .bool false, .int .u32 0, .int .u32 0, .int .i64 0, .int .i64 0, .int .i64 0, .slice none 0 0], .slice none 0 0, .int .i64 0, .int .u8 0, .int .i64 0], []⟩ 8 (by kernel_rfl) (by kernel_rfl) (by kernel_rfl) (by kernel_rfl)) Try.laidOut (by kernel_rfl) rfl rfl Try.underlying4 ?_ ?_
  · intro ds hds
    match ds, hds with
    | [_, _, _, _, _, _], _ => rfl
  intro W base args ds p hval0 hA0 _ _ hsz0
  have hval : ∀ (j : Nat) t v, Try.f3.params[j]? = some t → args[j]? = some v → Value.okWide Try.prog W .any base t v := hval0
  have hA : DataW.TrodAll enc Try.prog W 0 (fun _ => true) true Try.f3.params.toList args.toList ds p := hA0
  rw [Try.params3] at hA hval
  obtain ⟨v0, vs0, d0, ds0, p0, q0, hargs0, hds0, hps0, h0, r0⟩ := trodAll_cons hA
  obtain ⟨v1, vs1, d1, ds1, p1, q1, hargs1, hds1, hps1, h1, r1⟩ := trodAll_cons r0
  obtain ⟨v2, vs2, d2, ds2, p2, q2, hargs2, hds2, hps2, h2, r2⟩ := trodAll_cons r1
  obtain ⟨v3, vs3, d3, ds3, p3, q3, hargs3, hds3, hps3, h3, r3⟩ := trodAll_cons r2
  obtain ⟨v4, vs4, d4, ds4, p4, q4, hargs4, hds4, hps4, h4, r4⟩ := trodAll_cons r3
  obtain ⟨v5, vs5, d5, ds5, p5, q5, hargs5, hds5, hps5, h5, r5⟩ := trodAll_cons r4
  obtain ⟨e1, _, _⟩ := trodAll_nil r5
  obtain rfl : args = #[v0, v1, v2, v3, v4, v5] := by cases args; simp_all
  obtain ⟨act0, trial0, flo0, gen0, va0, la0, Aa0, na0, ca0, ha0, vb0, lb0, Ab0, nb0, cb0, hb0, on0, s0, u0, l0, z0, p0, A0, n0, c0, h_0, rfl, k1_0, k2_0, k3_0, k4_0, k5_0, k6_0, k7_0, k8_0, k9_0, k10_0, k11_0, k12_0, k13_0, k14_0, k15_0, k16_0⟩ := open_state (hval 0 30 v0 rfl rfl) h0
  obtain ⟨act1, trial1, flo1, gen1, va1, la1, Aa1, na1, ca1, ha1, vb1, lb1, Ab1, nb1, cb1, hb1, on1, s1, u1, l1, z1, p1, A1, n1, c1, h_1, rfl, k1_1, k2_1, k3_1, k4_1, k5_1, k6_1, k7_1, k8_1, k9_1, k10_1, k11_1, k12_1, k13_1, k14_1, k15_1, k16_1⟩ := open_state (hval 1 30 v1 rfl rfl) h1
  obtain ⟨A2, n2, cap2, l2, rfl, hrow2, hnc2, hcm2⟩ := open_bytes Try.underlying23 Try.underlying5 Try.cells5 (hval 2 23 v2 rfl rfl) h2
  obtain ⟨x3, rfl, hx3, hy3⟩ := open_i64 Try.underlying3 (hval 3 3 v3 rfl rfl) h3
  obtain ⟨x4, rfl⟩ := open_byte Try.underlying5 (hval 4 5 v4 rfl rfl) h4
  obtain ⟨x5, rfl, hx5, hy5⟩ := open_i64 Try.underlying3 (hval 5 3 v5 rfl rfl) h5
  exact sforms19_walk _ _ _ _ A2 n2 cap2 l2 x3 x4 x5 W (st_in k7_0.1 k10_0.1 k16_0.1) (st_in k7_1.1 k10_1.1 k16_1.1) ⟨k3_0, k4_0, k5_0, k8_0, k11_0, k12_0⟩ hrow2 hnc2 hcm2

theorem stateForms_holds : Rows.StateFormsSaid :=
  OpenClaim.holds_of_wide 3 Try.f3 rfl rfl rfl rfl rfl rfl rfl ⟨rfl, rfl, rfl, rfl, rfl⟩ rfl rfl rfl rfl rfl (by kernel_rfl) Try.func3 (by kernel_rfl)
    (of_decide_eq_true (by kernel_rfl)) (by unfold Func.isWrapper; rw [if_neg (of_decide_eq_false (by kernel_rfl))]; exact ⟨rfl, rfl⟩)
    (fun os started H enc _ => stateForms_lifted os started H enc)
end
end Go.Proofs.Ytdipccjgpkedhaa
