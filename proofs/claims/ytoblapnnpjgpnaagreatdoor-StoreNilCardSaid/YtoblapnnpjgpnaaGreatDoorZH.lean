/- The frame of every law of this seat: whatever is read, the call answers true and nothing that was there has changed. -/
import Derived.ProofKit
import Derived.SizedLaws
import Derived.Deep.Slices
import Derived.Test.YtoblapnnpjgpnaaGreatDoorRows
import Derived.Test.YtoblapnnpjgpnaaGreatDoorZA
namespace Go.Proofs.YtoblapnnpjgpnaaGreatDoor
open Go.ChangeShapes Go.WideShapes Go.ChangeAt Go.RowKit

theorem Tryz.own : ownKnob Tryz.prog.godebug = none := by kernel_rfl
theorem Tryz.laidOut : laidOutB Tryz.prog = true := by kernel_rfl
theorem Tryz.cells5 : Tryz.prog.cellsOf 5 = 1 := by kernel_rfl

theorem trodAll_below {H : Type} {enc : TypeId × Value → H} {P : Program} (hl : laidOutB P = true) {W W' : World} (hb : Below W.heap.size W W') :
    ∀ {ts : List TypeId} {vs : List Value} {ds : List (DataW H)} {ps : List MemPlace}, (ts.all fun t => P.readableRec t && decide (t < P.types.size)) = true →
      (∀ x ∈ ps, x.block < W.heap.size) → DataW.TrodAll enc P W 0 (fun _ => true) true ts vs ds ps → DataW.TrodAll enc P W' 0 (fun b => decide (b < W.heap.size)) true ts vs ds ps
  | [], [], [], _, _, _, h => h
  | t :: ts, v :: vs, d :: ds, ps, hr, hlt, h => by
    obtain ⟨p, q, h1, h2, e⟩ := h
    subst e
    simp only [List.all_cons, Bool.and_eq_true, decide_eq_true_eq] at hr
    exact ⟨p, q, Below.trod hl hr.1.1 hr.1.2 h1 hb (fun x hx => hlt x (by simp [hx])), trodAll_below hl hb hr.2 (fun x hx => hlt x (by simp [hx])) h2, rfl⟩
  | [], [], _ :: _, _, _, _, h => h.elim
  | [], _ :: _, _, _, _, _, h => by cases ‹List (DataW H)› <;> exact h.elim
  | _ :: _, [], _, _, _, _, h => by cases ‹List (DataW H)› <;> exact h.elim
  | _ :: _, _ :: _, [], _, _, _, h => h.elim

theorem trodAll_length {H : Type} {enc : TypeId × Value → H} {P : Program} {W : World} {base : Nat} {sp : Nat → Bool} {hd : Bool} : ∀ {ts : List TypeId} {vs : List Value} {ds : List (DataW H)} {ps : List MemPlace},
    DataW.TrodAll enc P W base sp hd ts vs ds ps → ds.length = ts.length
  | [], vs, ds, ps, h => by obtain ⟨_, rfl, _⟩ := trodAll_nil h; rfl
  | t :: ts, vs, ds, ps, h => by
    obtain ⟨v, vs', d, ds', p, q, _, rfl, _, _, h2⟩ := trodAll_cons h
    simp [trodAll_length h2]

theorem law_lift {C : Checked} {os : Os} {f : FuncId} {fn : Func} {s : ChangeSpec} {conds : List PathCond} {H : Type} {enc : TypeId × Value → H} {tb : TypeId}
    (own : ownKnob C.prog.godebug = none) (started : os.Started) (noInit : C.prog.inits.idxOf? f = none) (hfn : C.prog.funcs[f]? = some fn)
    (witness : ∃ (w : World) (tape : Tape) (i : Input), w.os = os ∧ (w.forCall tape i).Shaped C.prog ∧ i.vars = [] ∧ Input.okWide C.prog (w.forCall tape i) .any w.heap.size f i ∧
      s.pre6 enc C.prog fn conds false (w.forCall tape i).memory i.args ∧ ({} : Assume).holds C.prog (lone (Frame.enter C.prog f i.args .normal) [] (w.forCall tape i)))
    (hl : laidOutB C.prog = true) (hr : (fn.params.toList.all fun t => C.prog.readableRec t && decide (t < C.prog.types.size)) = true)
    (hv : s.vars = []) (hres : fn.resultTypes = #[tb]) (htb : C.prog.underlying tb = some .bool)
    (hspec : ∀ ds : List (DataW H), ds.length = fn.params.toList.length → s.fn H ds = { results := [.lit (.bool true)], args := ds })
    (walk : ∀ (W : World) (base : Nat) (args : Array Value) (ds : List (DataW H)) (p : List MemPlace),
      (∀ (j : Nat) t v, fn.params[j]? = some t → args[j]? = some v → Value.okWide C.prog W .any base t v) →
      DataW.TrodAll enc C.prog W 0 (fun _ => true) true fn.params.toList args.toList ds p → (∀ x ∈ p, x.block < W.heap.size) →
      conds.all (PathCond.test C.prog ⟨fn.params.toList, ds, s.plain.varTypes C.prog, []⟩) = true →
      (DataW.weightsEach C.prog fn.params.toList ds).all (· ≤ reachBytes) = true →
      Calls C.prog f args W fun e W' => e = .returned (.bool true) ∧ Below W.heap.size W W') :
    ReturnsInHanded {} C os f .any (s.pre6 enc C.prog fn conds false) (s.post enc C.prog fn false true false false) := by
  refine returnsInHanded_of_change_sized own started noInit hfn witness ?_
  intro W base args ds gs before hval hW hcnd hsz _
  have hW' := hW
  obtain ⟨p, q, hA, hV, rfl, hfz, hnd⟩ := hW
  rw [hv] at hV
  obtain ⟨rfl, rfl⟩ := trodVars_none hV
  have hlt : ∀ x ∈ p, x.block < W.heap.size := fun x hx => hW'.lt x (by simp [hx])
  have hvt : s.plain.varTypes C.prog = [] := by simp [ChangeSpec.plain, DataSpec.varTypes, hv]
  rw [List.append_nil, hvt, List.append_nil] at hsz
  refine (walk W base args ds p hval hA hlt hcnd hsz).mono fun e W' ⟨he, hb⟩ => ⟨_, he, ?_⟩
  have hs : s.fn H (ds ++ []) = { results := [.lit (.bool true)], args := ds } := by rw [List.append_nil]; exact hspec ds (trodAll_length hA)
  refine ⟨ds, [], p ++ [], [], p, [], hW', ?_, ?_, ?_, hb.frame _, fun h => by cases h⟩
  · rw [hs, hres]
    exact trodAll_mk1 (shut_bool htb _)
  · rw [hs]
    exact trodAll_below hl hb hr hlt hA
  · rw [hs, hv]
    rfl

theorem weights_cons {H : Type} {P : Program} {t : TypeId} {ts : List TypeId} {d : DataW H} {r : List (DataW H)} (h : (DataW.weightsEach P (t :: ts) (d :: r)).all (· ≤ reachBytes) = true) :
    (d.weights P t).all (· ≤ reachBytes) = true ∧ (DataW.weightsEach P ts r).all (· ≤ reachBytes) = true := by
  simpa [DataW.weightsEach, List.all_append] using h
/-- a byte slice that came in, whatever it is -/
theorem open_rbytes {H : Type} {enc : TypeId × Value → H} {P : Program} {W : World} {base : Nat} {t e : TypeId} {v : Value} {d : DataW H} {ps : List MemPlace}
    (ht : P.underlying t = some (.slice e)) (he : P.underlying e = some (.int .u8)) (hc : P.cellsOf e = 1) (hval : Value.okWide P W .any base t v) (h : DataW.Trod enc P W 0 (fun _ => true) true t v d ps) :
    ∃ (A : Option Addr) (n cap : Nat) (l : List UInt8), v = .slice A n cap ∧ Row W W.heap.size A n (bv l) ∧ n ≤ cap ∧ cap ≤ 9223372036854775807 ∧ (P.bytesOf e = 1 → (d.weights P t).all (· ≤ reachBytes) = true → n ≤ 140737488351232) := by
  obtain ⟨a0, len, cap, rfl⟩ := okWide_slice ht hval
  obtain ⟨fuel, hf⟩ := h
  rcases open_ints ht he hc hf with ⟨hcs, hx⟩ | ⟨a, len', cap', zs, hcs, _, hl, hm, hz, hx, hcell, hwz⟩
  · simp [Value.cells] at hcs
    obtain ⟨rfl, rfl, rfl⟩ := hcs
    exact ⟨none, 0, 0, [], rfl, Row.nil _ _ _, Nat.le_refl _, by omega, fun _ _ => by omega⟩
  · simp [Value.cells] at hcs
    obtain ⟨rfl, rfl, rfl⟩ := hcs
    unfold maxLen at hm
    simp at hz
    refine ⟨_, _, _, _, rfl, row_of_ints (by omega) hcell hwz ?_, hl, by omega, fun hb hw => ?_⟩
    rotate_left
    · injection hx with hx _
      subst hx
      simp only [DataW.weights, ht, hb, List.all_cons, Bool.and_eq_true, decide_eq_true_eq] at hw
      have := hw.1
      simp [lits, reachBytes] at this
      omega
    rcases Nat.eq_zero_or_pos len with h0 | h0
    · exact .inr h0
    · left
      have := block_lt_of_cell (hcell 0 (by omega))
      simpa [Addr.add] using this
theorem open_bytes {H : Type} {enc : TypeId × Value → H} {P : Program} {W : World} {base : Nat} {t e : TypeId} {v : Value} {d : DataW H} {ps : List MemPlace}
    (ht : P.underlying t = some (.slice e)) (he : P.underlying e = some (.int .u8)) (hc : P.cellsOf e = 1) (hval : Value.okWide P W .any base t v) (h : DataW.Trod enc P W 0 (fun _ => true) true t v d ps) :
    ∃ (A : Option Addr) (n cap : Nat) (l : List UInt8), v = .slice A n cap ∧ Row W W.heap.size A n (bv l) ∧ n ≤ cap ∧ cap ≤ 9223372036854775807 := by
  obtain ⟨A, n, cap, l, h1, h2, h3, h4, _⟩ := open_rbytes ht he hc hval h
  exact ⟨A, n, cap, l, h1, h2, h3, h4⟩
/-- a byte, a number of 32 bits, a number of 64 bits that came in -/
theorem open_byte {H : Type} {enc : TypeId × Value → H} {P : Program} {W : World} {base : Nat} {t : TypeId} {v : Value} {d : DataW H} {ps : List MemPlace}
    (ht : P.underlying t = some (.int .u8)) (hval : Value.okWide P W .any base t v) (h : DataW.Trod enc P W 0 (fun _ => true) true t v d ps) : ∃ x : UInt8, v = .int .u8 (x.toNat : Int) := by
  obtain ⟨x, rfl, _, _, wx⟩ := open_int ht hval h
  have hb : 0 ≤ x ∧ x ≤ 255 := by simpa [Lit.wf, IntKind.min, IntKind.max, IntKind.signed, IntKind.bits] using wx
  refine ⟨UInt8.ofNat x.toNat, ?_⟩
  congr 1
  simp
  omega
theorem open_u32 {H : Type} {enc : TypeId × Value → H} {P : Program} {W : World} {base : Nat} {t : TypeId} {v : Value} {d : DataW H} {ps : List MemPlace}
    (ht : P.underlying t = some (.int .u32)) (hval : Value.okWide P W .any base t v) (h : DataW.Trod enc P W 0 (fun _ => true) true t v d ps) : ∃ x : Nat, v = .int .u32 (x : Int) ∧ x < 2 ^ 32 := by
  obtain ⟨x, rfl, _, _, wx⟩ := open_int ht hval h
  have hb : 0 ≤ x ∧ x ≤ 4294967295 := by simpa [Lit.wf, IntKind.min, IntKind.max, IntKind.signed, IntKind.bits] using wx
  exact ⟨x.toNat, by congr 1; omega, by omega⟩
theorem open_i64 {H : Type} {enc : TypeId × Value → H} {P : Program} {W : World} {base : Nat} {t : TypeId} {v : Value} {d : DataW H} {ps : List MemPlace}
    (ht : P.underlying t = some (.int .i64)) (hval : Value.okWide P W .any base t v) (h : DataW.Trod enc P W 0 (fun _ => true) true t v d ps) : ∃ x : Int, v = .int .i64 x ∧ -9223372036854775808 ≤ x ∧ x ≤ 9223372036854775807 := by
  obtain ⟨x, rfl, _, _, wx⟩ := open_int ht hval h
  have hb : -9223372036854775808 ≤ x ∧ x ≤ 9223372036854775807 := by simpa [Lit.wf, IntKind.min, IntKind.max, IntKind.signed, IntKind.bits] using wx
  exact ⟨x, rfl, hb.1, hb.2⟩
/-- an array of bytes that came in, by value -/
theorem open_arr {H : Type} {enc : TypeId × Value → H} {P : Program} {W : World} {base k : Nat} {t e : TypeId} {v : Value} {d : DataW H} {ps : List MemPlace}
    (ht : P.underlying t = some (.array k e)) (he : P.underlying e = some (.int .u8)) (hc : P.cellsOf e = 1) (hct : P.cellsOf t = k) (hval : Value.okWide P W .any base t v) (h : DataW.Trod enc P W 0 (fun _ => true) true t v d ps) :
    ∃ bs : List UInt8, bs.length = k ∧ v = .agg (bv bs).toArray := by
  have hv := hval
  unfold Value.okWide at hv
  rw [ht] at hv
  obtain ⟨cs, rfl, hsz, _⟩ := hv
  rw [hct] at hsz
  obtain ⟨fuel, hf⟩ := h
  obtain ⟨xs, m, _, _, _, hxl, hx⟩ := DataW.trod_array ht hf
  have hcell : ∀ i (hi : i < k), ∃ b : UInt8, cs[i]? = some (.int .u8 (b.toNat : Int)) := by
    intro i hi
    have h1 := hx i hi
    rw [hc, Nat.mul_one] at h1
    have e1 : (Value.agg cs).cells.toList = cs.toList := rfl
    rw [e1, List.drop_eq_getElem_cons (by simp; omega), List.take_succ_cons, List.take_zero] at h1
    have h2 : xs[i]? = some xs[i] := List.getElem?_eq_getElem (by omega)
    rw [h2] at h1
    obtain ⟨n, hn, _, hw⟩ := DataW.trod_int he h1
    have hb : 0 ≤ n ∧ n ≤ 255 := by simpa [Lit.wf, IntKind.min, IntKind.max, IntKind.signed, IntKind.bits] using hw
    refine ⟨UInt8.ofNat n.toNat, ?_⟩
    rw [Array.getElem?_eq_getElem (by omega)]
    simp at hn
    rw [hn]
    congr 2
    simp
    omega
  refine ⟨cs.toList.map fun v => match v with | .int _ n => UInt8.ofNat n.toNat | _ => 0, by simp [hsz], ?_⟩
  congr 1
  apply Array.ext
  · simp [bv]
  · intro i h1 h2
    obtain ⟨b, hb⟩ := hcell i (by omega)
    rw [Array.getElem?_eq_getElem h1] at hb
    injection hb with hb
    simp [bv, hb]
end Go.Proofs.YtoblapnnpjgpnaaGreatDoor
namespace Go.Proofs.YtoblapnnpjgpnaaGreatDoor
open Go.ChangeShapes Go.WideShapes Go.ChangeAt Go.RowKit
theorem open_cbytes {H : Type} {enc : TypeId × Value → H} {P : Program} {W : World} {t e : TypeId} {fuel : Nat} {cs : List Value} {x : DataW H × List MemPlace}
    (ht : P.underlying t = some (.slice e)) (he : P.underlying e = some (.int .u8)) (hc : P.cellsOf e = 1) (hf : DataW.trod enc P W 0 (fun _ => true) true fuel t cs = some x) :
    ∃ (A : Option Addr) (n cap : Nat) (l : List UInt8), cs = [.slice A n cap] ∧ Row W W.heap.size A n (bv l) ∧ n ≤ cap ∧ cap ≤ 9223372036854775807 := by
  rcases open_ints ht he hc hf with ⟨hcs, hx⟩ | ⟨a, len, cap, zs, hcs, _, hl, hm, hz, hx, hcell, hwz⟩
  · exact ⟨none, 0, 0, [], hcs, Row.nil _ _ _, Nat.le_refl _, by omega⟩
  · unfold maxLen at hm
    simp at hz
    refine ⟨_, _, _, _, hcs, row_of_ints (by omega) hcell hwz ?_, hl, by omega⟩
    rcases Nat.eq_zero_or_pos len with h0 | h0
    · exact .inr h0
    · left
      have := block_lt_of_cell (hcell 0 (by omega))
      simpa [Addr.add] using this
theorem open_cu32 {H : Type} {enc : TypeId × Value → H} {P : Program} {W : World} {t : TypeId} {fuel : Nat} {cs : List Value} {x : DataW H × List MemPlace}
    (ht : P.underlying t = some (.int .u32)) (hf : DataW.trod enc P W 0 (fun _ => true) true fuel t cs = some x) : ∃ n : Nat, cs = [.int .u32 (n : Int)] ∧ n < 4294967296 := by
  obtain ⟨x, hx, _, wx⟩ := DataW.trod_int ht hf
  have hb : 0 ≤ x ∧ x ≤ 4294967295 := by simpa [Lit.wf, IntKind.min, IntKind.max, IntKind.signed, IntKind.bits] using wx
  exact ⟨x.toNat, by rw [hx]; congr 2; omega, by omega⟩
theorem open_sym {H : Type} {enc : TypeId × Value → H} {P : Program} {W : World} {base : Nat} {t e : TypeId} {v : Value} {d : DataW H} {ps : List MemPlace} {f0 f1 f2 : Field}
    (ht : P.underlying t = some (.struct #[f0, f1, f2])) (ho : f0.offset = 0 ∧ f1.offset = 1 ∧ f2.offset = 2) (h0 : P.underlying f0.type = some (.int .u32)) (h1 : P.underlying f1.type = some (.int .u32)) (h2 : P.underlying f2.type = some (.slice e))
    (he : P.underlying e = some (.int .u8)) (hc : P.cellsOf e = 1) (hcs : P.cellsOf f0.type = 1 ∧ P.cellsOf f1.type = 1 ∧ P.cellsOf f2.type = 1) (hct : P.cellsOf t = 3)
    (hval : Value.okWide P W .any base t v) (h : DataW.Trod enc P W 0 (fun _ => true) true t v d ps) :
    ∃ (s id : Nat) (A : Option Addr) (n cap : Nat) (l : List UInt8), v = .agg #[.int .u32 (s : Int), .int .u32 (id : Int), .slice A n cap] ∧ s < 4294967296 ∧ id < 4294967296 ∧ Row W W.heap.size A n (bv l) ∧ n ≤ cap ∧ cap ≤ 9223372036854775807 := by
  have hv := hval
  unfold Value.okWide at hv
  rw [ht] at hv
  obtain ⟨cs, rfl, hsz, _⟩ := hv
  rw [hct] at hsz
  obtain ⟨fuel, hf⟩ := h
  obtain ⟨xs, m, _, _, _, hxl, hx⟩ := DataW.trod_struct ht hf
  obtain ⟨c0, c1, c2, rfl⟩ : ∃ c0 c1 c2, cs = #[c0, c1, c2] := by
    match cs, hsz with
    | ⟨[c0, c1, c2]⟩, _ => exact ⟨c0, c1, c2, rfl⟩
  have e1 : (Value.agg #[c0, c1, c2]).cells.toList = [c0, c1, c2] := rfl
  have hxl3 : xs.length = 3 := hxl
  have g0 := hx 0 f0 rfl
  have g1 := hx 1 f1 rfl
  have g2 := hx 2 f2 rfl
  rw [e1, ho.1, hcs.1, List.getElem?_eq_getElem (by omega)] at g0
  rw [e1, ho.2.1, hcs.2.1, List.getElem?_eq_getElem (by omega)] at g1
  rw [e1, ho.2.2, hcs.2.2, List.getElem?_eq_getElem (by omega)] at g2
  obtain ⟨s, hs, hsl⟩ := open_cu32 h0 g0
  obtain ⟨id, hi, hil⟩ := open_cu32 h1 g1
  obtain ⟨A, n, cap, l, hd, hrow, hn, hcap⟩ := open_cbytes h2 he hc g2
  simp at hs hi hd
  subst hs hi hd
  exact ⟨s, id, A, n, cap, l, rfl, hsl, hil, hrow, hn, hcap⟩
end Go.Proofs.YtoblapnnpjgpnaaGreatDoor
namespace Go.Proofs.YtoblapnnpjgpnaaGreatDoor
open Go.ChangeShapes Go.WideShapes Go.ChangeAt Go.RowKit
theorem open_ci64 {H : Type} {enc : TypeId × Value → H} {P : Program} {W : World} {t : TypeId} {fuel : Nat} {cs : List Value} {x : DataW H × List MemPlace}
    (ht : P.underlying t = some (.int .i64)) (hf : DataW.trod enc P W 0 (fun _ => true) true fuel t cs = some x) : ∃ n : Int, cs = [.int .i64 n] ∧ -9223372036854775808 ≤ n ∧ n ≤ 9223372036854775807 := by
  obtain ⟨x, hx, _, wx⟩ := DataW.trod_int ht hf
  have hb : -9223372036854775808 ≤ x ∧ x ≤ 9223372036854775807 := by simpa [Lit.wf, IntKind.min, IntKind.max, IntKind.signed, IntKind.bits] using wx
  exact ⟨x, hx, hb.1, hb.2⟩
theorem open_call {H : Type} {enc : TypeId × Value → H} {P : Program} {W : World} {base : Nat} {t : TypeId} {v : Value} {d : DataW H} {ps : List MemPlace} {f1 f2 f3 : Field}
    (ht : P.underlying t = some (.struct #[f1, f2, f3])) (ho : f1.offset = 0 ∧ f2.offset = 1 ∧ f3.offset = 2) (h1 : P.underlying f1.type = some (.int .i64)) (h2 : P.underlying f2.type = some (.int .i64)) (h3 : P.underlying f3.type = some (.int .i64))
    (hcs : P.cellsOf f1.type = 1 ∧ P.cellsOf f2.type = 1 ∧ P.cellsOf f3.type = 1) (hct : P.cellsOf t = 3)
    (hval : Value.okWide P W .any base t v) (h : DataW.Trod enc P W 0 (fun _ => true) true t v d ps) :
    ∃ (K L Z : Int), v = .agg #[.int .i64 K, .int .i64 L, .int .i64 Z] := by
  have hv := hval
  unfold Value.okWide at hv
  rw [ht] at hv
  obtain ⟨cs, rfl, hsz, _⟩ := hv
  rw [hct] at hsz
  obtain ⟨fuel, hf⟩ := h
  obtain ⟨xs, m, _, _, _, hxl, hx⟩ := DataW.trod_struct ht hf
  obtain ⟨c1, c2, c3, rfl⟩ : ∃ c1 c2 c3, cs = #[c1, c2, c3] := by
    match cs, hsz with
    | ⟨[c1, c2, c3]⟩, _ => exact ⟨c1, c2, c3, rfl⟩
  have e1 : (Value.agg #[c1, c2, c3]).cells.toList = [c1, c2, c3] := rfl
  have hxl4 : xs.length = 3 := hxl
  have g1 := hx 0 f1 rfl
  have g2 := hx 1 f2 rfl
  have g3 := hx 2 f3 rfl
  rw [e1, ho.1, hcs.1, List.getElem?_eq_getElem (by omega)] at g1
  rw [e1, ho.2.1, hcs.2.1, List.getElem?_eq_getElem (by omega)] at g2
  rw [e1, ho.2.2, hcs.2.2, List.getElem?_eq_getElem (by omega)] at g3
  obtain ⟨K, hK, hKl⟩ := open_ci64 h1 g1
  obtain ⟨L, hL, hLl⟩ := open_ci64 h2 g2
  obtain ⟨Z, hZ, hZl⟩ := open_ci64 h3 g3
  simp at hK hL hZ
  subst hK hL hZ
  exact ⟨K, L, Z, rfl⟩
end Go.Proofs.YtoblapnnpjgpnaaGreatDoor
namespace Go.Proofs.YtoblapnnpjgpnaaGreatDoor
open Go.ChangeShapes Go.WideShapes Go.ChangeAt Go.RowKit
/-- what a call is made of -/
structure FCall where
  d : Int
  a : Int
  n : Int
  A : Option Addr
  m : Nat
  c : Nat
  l : List UInt8
def FCall.vals (x : FCall) : List Value := [.int .i64 x.d, .int .i64 x.a, .int .i64 x.n, .slice x.A x.m x.c]
def FCall.good (W : World) (x : FCall) : Prop :=
  Row W W.heap.size x.A x.m (bv x.l) ∧ x.m ≤ x.c ∧ x.c ≤ 9223372036854775807 ∧ (-9223372036854775808 ≤ x.d ∧ x.d ≤ 9223372036854775807) ∧ (-9223372036854775808 ≤ x.a ∧ x.a ≤ 9223372036854775807) ∧ (-9223372036854775808 ≤ x.n ∧ x.n ≤ 9223372036854775807)
theorem open_fcells {H : Type} {enc : TypeId × Value → H} {P : Program} {W : World} {t e : TypeId} {fuel : Nat} {cs : List Value} {x : DataW H × List MemPlace} {f0 f1 f2 f3 : Field}
    (ht : P.underlying t = some (.struct #[f0, f1, f2, f3])) (ho : f0.offset = 0 ∧ f1.offset = 1 ∧ f2.offset = 2 ∧ f3.offset = 3)
    (h0 : P.underlying f0.type = some (.int .i64)) (h1 : P.underlying f1.type = some (.int .i64)) (h2 : P.underlying f2.type = some (.int .i64)) (h3 : P.underlying f3.type = some (.slice e))
    (he : P.underlying e = some (.int .u8)) (hc : P.cellsOf e = 1) (hcs : P.cellsOf f0.type = 1 ∧ P.cellsOf f1.type = 1 ∧ P.cellsOf f2.type = 1 ∧ P.cellsOf f3.type = 1) (hct : P.cellsOf t = 4)
    (hf : DataW.trod enc P W 0 (fun _ => true) true fuel t cs = some x) : ∃ y : FCall, cs = y.vals ∧ y.good W := by
  obtain ⟨xs, m, _, _, hlen, hxl, hx⟩ := DataW.trod_struct ht hf
  rw [hct] at hlen
  match cs, hlen with
  | [c0, c1, c2, c3], _ =>
    have hxl4 : xs.length = 4 := hxl
    have g0 := hx 0 f0 rfl
    have g1 := hx 1 f1 rfl
    have g2 := hx 2 f2 rfl
    have g3 := hx 3 f3 rfl
    rw [ho.1, hcs.1, List.getElem?_eq_getElem (by omega)] at g0
    rw [ho.2.1, hcs.2.1, List.getElem?_eq_getElem (by omega)] at g1
    rw [ho.2.2.1, hcs.2.2.1, List.getElem?_eq_getElem (by omega)] at g2
    rw [ho.2.2.2, hcs.2.2.2, List.getElem?_eq_getElem (by omega)] at g3
    obtain ⟨d, hd, hdl⟩ := open_ci64 h0 g0
    obtain ⟨a, ha, hal⟩ := open_ci64 h1 g1
    obtain ⟨n, hn, hnl⟩ := open_ci64 h2 g2
    obtain ⟨A, k, cap, l, hl, hrow, hk, hcap⟩ := open_cbytes h3 he hc g3
    simp at hd ha hn hl
    subst hd ha hn hl
    exact ⟨⟨d, a, n, A, k, cap, l⟩, rfl, hrow, hk, hcap, hdl, hal, hnl⟩
theorem open_fcall {H : Type} {enc : TypeId × Value → H} {P : Program} {W : World} {base : Nat} {t e : TypeId} {v : Value} {d : DataW H} {ps : List MemPlace} {f0 f1 f2 f3 : Field}
    (ht : P.underlying t = some (.struct #[f0, f1, f2, f3])) (ho : f0.offset = 0 ∧ f1.offset = 1 ∧ f2.offset = 2 ∧ f3.offset = 3)
    (h0 : P.underlying f0.type = some (.int .i64)) (h1 : P.underlying f1.type = some (.int .i64)) (h2 : P.underlying f2.type = some (.int .i64)) (h3 : P.underlying f3.type = some (.slice e))
    (he : P.underlying e = some (.int .u8)) (hc : P.cellsOf e = 1) (hcs : P.cellsOf f0.type = 1 ∧ P.cellsOf f1.type = 1 ∧ P.cellsOf f2.type = 1 ∧ P.cellsOf f3.type = 1) (hct : P.cellsOf t = 4)
    (hval : Value.okWide P W .any base t v) (h : DataW.Trod enc P W 0 (fun _ => true) true t v d ps) : ∃ y : FCall, v = .agg y.vals.toArray ∧ y.good W := by
  have hv := hval
  unfold Value.okWide at hv
  rw [ht] at hv
  obtain ⟨cs, rfl, hsz, _⟩ := hv
  obtain ⟨fuel, hf⟩ := h
  obtain ⟨y, hy, hg⟩ := open_fcells ht ho h0 h1 h2 h3 he hc hcs hct hf
  refine ⟨y, ?_, hg⟩
  have e1 : cs.toList = y.vals := hy
  rw [← e1]
theorem list_of {α : Type} {p : Nat → α → Prop} (n : Nat) (h : ∀ i, i < n → ∃ y, p i y) : ∃ ys : List α, ys.length = n ∧ ∀ i (hi : i < ys.length), p i ys[i] := by
  induction n with
  | zero => exact ⟨[], rfl, fun i hi => absurd hi (by simp)⟩
  | succ k ih =>
    obtain ⟨ys, hl1, hy1⟩ := ih (fun i hi => h i (by omega))
    obtain ⟨y, hy⟩ := h k (by omega)
    refine ⟨ys ++ [y], by simp [hl1], fun i hi => ?_⟩
    by_cases hik : i < ys.length
    · rw [List.getElem_append_left hik]; exact hy1 i hik
    · have : i = k := by simp at hi; omega
      subst this
      rw [List.getElem_append_right (by omega)]
      simp only [hl1, Nat.sub_self, List.getElem_cons_zero]
      exact hy
/-- a row of calls: each one's four cells -/
def FCalls (W : World) (A : Option Addr) (n : Nat) (ys : List FCall) : Prop :=
  ys.length = n ∧ (∀ y ∈ ys, y.good W) ∧ (0 < n → ∃ b o, A = some ⟨b, o, none⟩ ∧ b < W.heap.size ∧ ∀ i (hi : i < ys.length), ∀ j v, ys[i].vals[j]? = some v → W.cell? ⟨b, o + (i * 4 + j), none⟩ = some v)
theorem open_fcallrow {H : Type} {enc : TypeId × Value → H} {P : Program} {W : World} {base : Nat} {t q e : TypeId} {v : Value} {d : DataW H} {ps : List MemPlace} {f0 f1 f2 f3 : Field} (htq : P.underlying t = some (.slice q))
    (ht : P.underlying q = some (.struct #[f0, f1, f2, f3])) (ho : f0.offset = 0 ∧ f1.offset = 1 ∧ f2.offset = 2 ∧ f3.offset = 3)
    (h0 : P.underlying f0.type = some (.int .i64)) (h1 : P.underlying f1.type = some (.int .i64)) (h2 : P.underlying f2.type = some (.int .i64)) (h3 : P.underlying f3.type = some (.slice e))
    (he : P.underlying e = some (.int .u8)) (hc : P.cellsOf e = 1) (hcs : P.cellsOf f0.type = 1 ∧ P.cellsOf f1.type = 1 ∧ P.cellsOf f2.type = 1 ∧ P.cellsOf f3.type = 1) (hct : P.cellsOf q = 4)
    (hval : Value.okWide P W .any base t v) (h : DataW.Trod enc P W 0 (fun _ => true) true t v d ps) : ∃ (A : Option Addr) (n cap : Nat) (ys : List FCall), v = .slice A n cap ∧ FCalls W A n ys ∧ n ≤ cap ∧ cap ≤ 9223372036854775807 := by
  obtain ⟨a0, len, cap, rfl⟩ := okWide_slice htq hval
  obtain ⟨fuel, hf⟩ := h
  rcases Go.Deep.open_slice htq hf with ⟨hcs', _⟩ | ⟨a, len', cap', m, nf, D, Pl, hcs', _, hl, hm, hmm, _, hi⟩
  · simp [Value.cells] at hcs'
    obtain ⟨rfl, rfl, rfl⟩ := hcs'
    exact ⟨none, 0, 0, [], rfl, ⟨rfl, (fun y hy => by cases hy), fun h => absurd h (by omega)⟩, Nat.le_refl _, by omega⟩
  · simp [Value.cells] at hcs'
    obtain ⟨rfl, rfl, rfl⟩ := hcs'
    rw [if_pos rfl] at hmm
    unfold maxLen at hm
    rw [hct] at hi
    have key : ∀ i, i < len → ∃ y : FCall, y.good W ∧ ∀ j v, y.vals[j]? = some v → W.cell? (a.add (i * 4 + j)) = some v := by
      intro i hil
      obtain ⟨cs, hcells, htr⟩ := hi i (by omega)
      obtain ⟨y, hy, hg⟩ := open_fcells ht ho h0 h1 h2 h3 he hc hcs hct htr
      obtain ⟨_, hcl, hat⟩ := World.cells?_some hcells
      refine ⟨y, hg, fun j v hv => ?_⟩
      have hj : j < 4 := by have := (List.getElem?_eq_some_iff.1 hv).1; simpa [FCall.vals] using this
      have := hat j hj
      rw [← Go.Deep.add_add, this, hy]; exact hv
    have hys := list_of len key
    obtain ⟨ys, hyl, hy⟩ := hys
    refine ⟨some a, len, cap, ys, rfl, ⟨hyl, ?_, fun hn => ?_⟩, hl, by omega⟩
    · intro y hym
      obtain ⟨i, hi, rfl⟩ := List.getElem_of_mem hym
      exact (hy i hi).1
    · obtain ⟨b, o, spot⟩ := a
      have h00 := (hy 0 (by omega)).2 0 (.int .i64 (ys[0]'(by omega)).d) rfl
      have hspot : spot = none := by simpa [Addr.add] using World.cell?_spot h00
      subst hspot
      refine ⟨b, o, rfl, ?_, fun i hi j v hv => ?_⟩
      · have := block_lt_of_cell h00
        simpa [Addr.add] using this
      · have := (hy i hi).2 j v hv
        rwa [plain_add] at this
end Go.Proofs.YtoblapnnpjgpnaaGreatDoor
