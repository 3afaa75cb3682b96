/- Contracts of the functions that the law calls, part 17. -/
import Derived.Test.YtpmmolamdlcmnaaGreatDoorRows
import Derived.ProofKit
import Derived.SizedLaws
import Derived.LaidMore
import Derived.LaidLaws
import Derived.Stop.Joined
import Derived.SevenTiedAt
import Derived.Test.YtpmmolamdlcmnaaGreatDoorTie
import Derived.Test.YtpmmolamdlcmnaaGreatDoorCards
import Derived.Test.YtpmmolamdlcmnaaGreatDoorZ16
namespace Go.Proofs.YtpmmolamdlcmnaaGreatDoor
open Go.ChangeShapes Go.WideShapes Go.ChangeAt Go.RowKit

theorem Tryz.own : ownKnob Tryz.prog.godebug = none := by kernel_rfl
theorem Tryz.laidOut : laidOutB Tryz.prog = true := by kernel_rfl
theorem Tryz.cells5 : Tryz.prog.cellsOf 5 = 1 := by kernel_rfl

theorem trodAll_below {H : Type} {enc : TypeId × Value → H} {P : Program} (hl : laidOutB P = true) {W W' : World} (hb : Below W.heap.size W W') :
    ∀ {ts : List TypeId} {vs : List Value} {ds : List (DataW H)} {ps : List MemPlace}, (ts.all fun t => P.readableRec t && decide (t < P.types.size)) = true →
      (∀ x ∈ ps, x.block < W.heap.size) → DataW.TrodAll enc P W 0 (fun _ => true) true ts vs ds ps → DataW.TrodAll enc P W' 0 (fun b => decide (b < W.heap.size)) true ts vs ds ps
  | [], [], [], _, _, _, h => h
  | t :: ts, v :: vs, d :: ds, ps, hr, hlt, h => by
    obtain ⟨p, q, h1, h2, e⟩ := h
    subst e
    simp only [List.all_cons, Bool.and_eq_true, decide_eq_true_eq] at hr
    exact ⟨p, q, Below.trod hl hr.1.1 hr.1.2 h1 hb (fun x hx => hlt x (by simp [hx])), trodAll_below hl hb hr.2 (fun x hx => hlt x (by simp [hx])) h2, rfl⟩
  | [], [], _ :: _, _, _, _, h => h.elim
  | [], _ :: _, _, _, _, _, h => by cases ‹List (DataW H)› <;> exact h.elim
  | _ :: _, [], _, _, _, _, h => by cases ‹List (DataW H)› <;> exact h.elim
  | _ :: _, _ :: _, [], _, _, _, h => h.elim

theorem trodAll_length {H : Type} {enc : TypeId × Value → H} {P : Program} {W : World} {base : Nat} {sp : Nat → Bool} {hd : Bool} : ∀ {ts : List TypeId} {vs : List Value} {ds : List (DataW H)} {ps : List MemPlace},
    DataW.TrodAll enc P W base sp hd ts vs ds ps → ds.length = ts.length
  | [], vs, ds, ps, h => by obtain ⟨_, rfl, _⟩ := trodAll_nil h; rfl
  | t :: ts, vs, ds, ps, h => by
    obtain ⟨v, vs', d, ds', p, q, _, rfl, _, _, h2⟩ := trodAll_cons h
    simp [trodAll_length h2]

theorem law_lift {C : Checked} {os : Os} {f : FuncId} {fn : Func} {s : ChangeSpec} {conds : List PathCond} {H : Type} {enc : TypeId × Value → H} {tb : TypeId}
    (own : ownKnob C.prog.godebug = none) (started : os.Started) (noInit : C.prog.inits.idxOf? f = none) (hfn : C.prog.funcs[f]? = some fn)
    (witness : ∃ (w : World) (tape : Tape) (i : Input), w.os = os ∧ (w.forCall tape i).Shaped C.prog ∧ i.vars = [] ∧ Input.okWide C.prog (w.forCall tape i) .any w.heap.size f i ∧
      s.pre6 enc C.prog fn conds false (w.forCall tape i).memory i.args ∧ ({} : Assume).holds C.prog (lone (Frame.enter C.prog f i.args .normal) [] (w.forCall tape i)))
    (hl : laidOutB C.prog = true) (hr : (fn.params.toList.all fun t => C.prog.readableRec t && decide (t < C.prog.types.size)) = true)
    (hv : s.vars = []) (hres : fn.resultTypes = #[tb]) (htb : C.prog.underlying tb = some .bool)
    (hspec : ∀ ds : List (DataW H), ds.length = fn.params.toList.length → s.fn H ds = { results := [.lit (.bool true)], args := ds })
    (walk : ∀ (W : World) (base : Nat) (args : Array Value) (ds : List (DataW H)) (p : List MemPlace),
      (∀ (j : Nat) t v, fn.params[j]? = some t → args[j]? = some v → Value.okWide C.prog W .any base t v) →
      DataW.TrodAll enc C.prog W 0 (fun _ => true) true fn.params.toList args.toList ds p → (∀ x ∈ p, x.block < W.heap.size) →
      conds.all (PathCond.test C.prog ⟨fn.params.toList, ds, s.plain.varTypes C.prog, []⟩) = true →
      (DataW.weightsEach C.prog fn.params.toList ds).all (· ≤ reachBytes) = true →
      Calls C.prog f args W fun e W' => e = .returned (.bool true) ∧ Below W.heap.size W W') :
    ReturnsInHanded {} C os f .any (s.pre6 enc C.prog fn conds false) (s.post enc C.prog fn false true false false) := by
  refine returnsInHanded_of_change_sized own started noInit hfn witness ?_
  intro W base args ds gs before hval hW hcnd hsz _
  have hW' := hW
  obtain ⟨p, q, hA, hV, rfl, hfz, hnd⟩ := hW
  rw [hv] at hV
  obtain ⟨rfl, rfl⟩ := trodVars_none hV
  have hlt : ∀ x ∈ p, x.block < W.heap.size := fun x hx => hW'.lt x (by simp [hx])
  have hvt : s.plain.varTypes C.prog = [] := by simp [ChangeSpec.plain, DataSpec.varTypes, hv]
  rw [List.append_nil, hvt, List.append_nil] at hsz
  refine (walk W base args ds p hval hA hlt hcnd hsz).mono fun e W' ⟨he, hb⟩ => ⟨_, he, ?_⟩
  have hs : s.fn H (ds ++ []) = { results := [.lit (.bool true)], args := ds } := by rw [List.append_nil]; exact hspec ds (trodAll_length hA)
  refine ⟨ds, [], p ++ [], [], p, [], hW', ?_, ?_, ?_, hb.frame _, fun h => by cases h⟩
  · rw [hs, hres]
    exact trodAll_mk1 (shut_bool htb _)
  · rw [hs]
    exact trodAll_below hl hb hr hlt hA
  · rw [hs, hv]
    rfl

theorem weights_cons {H : Type} {P : Program} {t : TypeId} {ts : List TypeId} {d : DataW H} {r : List (DataW H)} (h : (DataW.weightsEach P (t :: ts) (d :: r)).all (· ≤ reachBytes) = true) :
    (d.weights P t).all (· ≤ reachBytes) = true ∧ (DataW.weightsEach P ts r).all (· ≤ reachBytes) = true := by
  simpa [DataW.weightsEach, List.all_append] using h
/-- a byte slice that came in, whatever it is -/
theorem open_rbytes {H : Type} {enc : TypeId × Value → H} {P : Program} {W : World} {base : Nat} {t e : TypeId} {v : Value} {d : DataW H} {ps : List MemPlace}
    (ht : P.underlying t = some (.slice e)) (he : P.underlying e = some (.int .u8)) (hc : P.cellsOf e = 1) (hval : Value.okWide P W .any base t v) (h : DataW.Trod enc P W 0 (fun _ => true) true t v d ps) :
    ∃ (A : Option Addr) (n cap : Nat) (l : List UInt8), v = .slice A n cap ∧ Row W W.heap.size A n (bv l) ∧ n ≤ cap ∧ cap ≤ 9223372036854775807 ∧ (P.bytesOf e = 1 → (d.weights P t).all (· ≤ reachBytes) = true → n ≤ 140737488351232) := by
  obtain ⟨a0, len, cap, rfl⟩ := okWide_slice ht hval
  obtain ⟨fuel, hf⟩ := h
  rcases open_ints ht he hc hf with ⟨hcs, hx⟩ | ⟨a, len', cap', zs, hcs, _, hl, hm, hz, hx, hcell, hwz⟩
  · simp [Value.cells] at hcs
    obtain ⟨rfl, rfl, rfl⟩ := hcs
    exact ⟨none, 0, 0, [], rfl, Row.nil _ _ _, Nat.le_refl _, by omega, fun _ _ => by omega⟩
  · simp [Value.cells] at hcs
    obtain ⟨rfl, rfl, rfl⟩ := hcs
    unfold maxLen at hm
    simp at hz
    refine ⟨_, _, _, _, rfl, row_of_ints (by omega) hcell hwz ?_, hl, by omega, fun hb hw => ?_⟩
    rotate_left
    · injection hx with hx _
      subst hx
      simp only [DataW.weights, ht, hb, List.all_cons, Bool.and_eq_true, decide_eq_true_eq] at hw
      have := hw.1
      simp [lits, reachBytes] at this
      omega
    rcases Nat.eq_zero_or_pos len with h0 | h0
    · exact .inr h0
    · left
      have := block_lt_of_cell (hcell 0 (by omega))
      simpa [Addr.add] using this
theorem open_bytes {H : Type} {enc : TypeId × Value → H} {P : Program} {W : World} {base : Nat} {t e : TypeId} {v : Value} {d : DataW H} {ps : List MemPlace}
    (ht : P.underlying t = some (.slice e)) (he : P.underlying e = some (.int .u8)) (hc : P.cellsOf e = 1) (hval : Value.okWide P W .any base t v) (h : DataW.Trod enc P W 0 (fun _ => true) true t v d ps) :
    ∃ (A : Option Addr) (n cap : Nat) (l : List UInt8), v = .slice A n cap ∧ Row W W.heap.size A n (bv l) ∧ n ≤ cap ∧ cap ≤ 9223372036854775807 := by
  obtain ⟨A, n, cap, l, h1, h2, h3, h4, _⟩ := open_rbytes ht he hc hval h
  exact ⟨A, n, cap, l, h1, h2, h3, h4⟩
/-- a byte, a number of 32 bits, a number of 64 bits that came in -/
theorem open_byte {H : Type} {enc : TypeId × Value → H} {P : Program} {W : World} {base : Nat} {t : TypeId} {v : Value} {d : DataW H} {ps : List MemPlace}
    (ht : P.underlying t = some (.int .u8)) (hval : Value.okWide P W .any base t v) (h : DataW.Trod enc P W 0 (fun _ => true) true t v d ps) : ∃ x : UInt8, v = .int .u8 (x.toNat : Int) := by
  obtain ⟨x, rfl, _, _, wx⟩ := open_int ht hval h
  have hb : 0 ≤ x ∧ x ≤ 255 := by simpa [Lit.wf, IntKind.min, IntKind.max, IntKind.signed, IntKind.bits] using wx
  refine ⟨UInt8.ofNat x.toNat, ?_⟩
  congr 1
  simp
  omega
theorem open_u32 {H : Type} {enc : TypeId × Value → H} {P : Program} {W : World} {base : Nat} {t : TypeId} {v : Value} {d : DataW H} {ps : List MemPlace}
    (ht : P.underlying t = some (.int .u32)) (hval : Value.okWide P W .any base t v) (h : DataW.Trod enc P W 0 (fun _ => true) true t v d ps) : ∃ x : Nat, v = .int .u32 (x : Int) ∧ x < 2 ^ 32 := by
  obtain ⟨x, rfl, _, _, wx⟩ := open_int ht hval h
  have hb : 0 ≤ x ∧ x ≤ 4294967295 := by simpa [Lit.wf, IntKind.min, IntKind.max, IntKind.signed, IntKind.bits] using wx
  exact ⟨x.toNat, by congr 1; omega, by omega⟩
theorem open_i64 {H : Type} {enc : TypeId × Value → H} {P : Program} {W : World} {base : Nat} {t : TypeId} {v : Value} {d : DataW H} {ps : List MemPlace}
    (ht : P.underlying t = some (.int .i64)) (hval : Value.okWide P W .any base t v) (h : DataW.Trod enc P W 0 (fun _ => true) true t v d ps) : ∃ x : Int, v = .int .i64 x ∧ -9223372036854775808 ≤ x ∧ x ≤ 9223372036854775807 := by
  obtain ⟨x, rfl, _, _, wx⟩ := open_int ht hval h
  have hb : -9223372036854775808 ≤ x ∧ x ≤ 9223372036854775807 := by simpa [Lit.wf, IntKind.min, IntKind.max, IntKind.signed, IntKind.bits] using wx
  exact ⟨x, rfl, hb.1, hb.2⟩
/-- an array of bytes that came in, by value -/
theorem open_arr {H : Type} {enc : TypeId × Value → H} {P : Program} {W : World} {base k : Nat} {t e : TypeId} {v : Value} {d : DataW H} {ps : List MemPlace}
    (ht : P.underlying t = some (.array k e)) (he : P.underlying e = some (.int .u8)) (hc : P.cellsOf e = 1) (hct : P.cellsOf t = k) (hval : Value.okWide P W .any base t v) (h : DataW.Trod enc P W 0 (fun _ => true) true t v d ps) :
    ∃ bs : List UInt8, bs.length = k ∧ v = .agg (bv bs).toArray := by
  have hv := hval
  unfold Value.okWide at hv
  rw [ht] at hv
  obtain ⟨cs, rfl, hsz, _⟩ := hv
  rw [hct] at hsz
  obtain ⟨fuel, hf⟩ := h
  obtain ⟨xs, m, _, _, _, hxl, hx⟩ := DataW.trod_array ht hf
  have hcell : ∀ i (hi : i < k), ∃ b : UInt8, cs[i]? = some (.int .u8 (b.toNat : Int)) := by
    intro i hi
    have h1 := hx i hi
    rw [hc, Nat.mul_one] at h1
    have e1 : (Value.agg cs).cells.toList = cs.toList := rfl
    rw [e1, List.drop_eq_getElem_cons (by simp; omega), List.take_succ_cons, List.take_zero] at h1
    have h2 : xs[i]? = some xs[i] := List.getElem?_eq_getElem (by omega)
    rw [h2] at h1
    obtain ⟨n, hn, _, hw⟩ := DataW.trod_int he h1
    have hb : 0 ≤ n ∧ n ≤ 255 := by simpa [Lit.wf, IntKind.min, IntKind.max, IntKind.signed, IntKind.bits] using hw
    refine ⟨UInt8.ofNat n.toNat, ?_⟩
    rw [Array.getElem?_eq_getElem (by omega)]
    simp at hn
    rw [hn]
    congr 2
    simp
    omega
  refine ⟨cs.toList.map fun v => match v with | .int _ n => UInt8.ofNat n.toNat | _ => 0, by simp [hsz], ?_⟩
  congr 1
  apply Array.ext
  · simp [bv]
  · intro i h1 h2
    obtain ⟨b, hb⟩ := hcell i (by omega)
    rw [Array.getElem?_eq_getElem h1] at hb
    injection hb with hb
    simp [bv, hb]
end Go.Proofs.YtpmmolamdlcmnaaGreatDoor
namespace Go.Proofs.YtpmmolamdlcmnaaGreatDoor
open Go.ChangeShapes Go.WideShapes Go.ChangeAt Go.RowKit
theorem law_lift_laid {C : Checked} {os : Os} {f : FuncId} {fn : Func} {s : ChangeSpec} {conds : List PathCond} {H : Type} {enc : TypeId × Value → H} {tb : TypeId} {X : World → Array Value → Prop}
    (hX : ∀ (w w' : World) (args : Array Value), w.heap = w'.heap → X w args → X w' args)
    (own : ownKnob C.prog.godebug = none) (started : os.Started) (noInit : C.prog.inits.idxOf? f = none) (hfn : C.prog.funcs[f]? = some fn)
    (witness : ∃ (w : World) (tape : Tape) (i : Input), w.os = os ∧ (w.forCall tape i).Shaped C.prog ∧ i.vars = [] ∧ Input.okWide C.prog (w.forCall tape i) .any w.heap.size f i ∧
      ((s.pre enc C.prog fn conds false (w.forCall tape i).memory i.args ∧ X (w.forCall tape i).memory i.args) ∧ sizedMet enc C.prog fn (OpenSpec.ofChange s) false (w.forCall tape i).memory i.args) ∧ ({} : Assume).holds C.prog (lone (Frame.enter C.prog f i.args .normal) [] (w.forCall tape i)))
    (hl : laidOutB C.prog = true) (hr : (fn.params.toList.all fun t => C.prog.readableRec t && decide (t < C.prog.types.size)) = true)
    (hv : s.vars = []) (hres : fn.resultTypes = #[tb]) (htb : C.prog.underlying tb = some .bool)
    (hspec : ∀ ds : List (DataW H), ds.length = fn.params.toList.length → s.fn H ds = { results := [.lit (.bool true)], args := ds })
    (walk : ∀ (W : World) (base : Nat) (args : Array Value) (ds : List (DataW H)) (p : List MemPlace),
      (∀ (j : Nat) t v, fn.params[j]? = some t → args[j]? = some v → Value.okWide C.prog W .any base t v) →
      DataW.TrodAll enc C.prog W 0 (fun _ => true) true fn.params.toList args.toList ds p → (∀ x ∈ p, x.block < W.heap.size) →
      conds.all (PathCond.test C.prog ⟨fn.params.toList, ds, s.plain.varTypes C.prog, []⟩) = true →
      (DataW.weightsEach C.prog fn.params.toList ds).all (· ≤ reachBytes) = true → X W args →
      Calls C.prog f args W fun e W' => e = .returned (.bool true) ∧ Below W.heap.size W W') :
    ReturnsInHanded {} C os f .any (fun w args => (s.pre enc C.prog fn conds false w args ∧ X w args) ∧ sizedMet enc C.prog fn (OpenSpec.ofChange s) false w args) (s.post enc C.prog fn false true false false) := by
  refine returnsInHanded_of_change_and hX own started noInit hfn witness ?_
  intro W base args ds gs before hval hW hcnd hsz hx _
  have hW' := hW
  obtain ⟨p, q, hA, hV, rfl, hfz, hnd⟩ := hW
  rw [hv] at hV
  obtain ⟨rfl, rfl⟩ := trodVars_none hV
  have hlt : ∀ x ∈ p, x.block < W.heap.size := fun x hx => hW'.lt x (by simp [hx])
  have hvt : s.plain.varTypes C.prog = [] := by simp [ChangeSpec.plain, DataSpec.varTypes, hv]
  rw [List.append_nil, hvt, List.append_nil] at hsz
  refine (walk W base args ds p hval hA hlt hcnd hsz hx).mono fun e W' ⟨he, hb⟩ => ⟨_, he, ?_⟩
  have hs : s.fn H (ds ++ []) = { results := [.lit (.bool true)], args := ds } := by rw [List.append_nil]; exact hspec ds (trodAll_length hA)
  refine ⟨ds, [], p ++ [], [], p, [], hW', ?_, ?_, ?_, hb.frame _, fun h => by cases h⟩
  · rw [hs, hres]
    exact trodAll_mk1 (shut_bool htb _)
  · rw [hs]
    exact trodAll_below hl hb hr hlt hA
  · rw [hs, hv]
    rfl
end Go.Proofs.YtpmmolamdlcmnaaGreatDoor
namespace Go.Proofs.YtpmmolamdlcmnaaGreatDoor.Vc
open Go.RowKit Go.ChangeShapes Go.WideShapes Go.ChangeAt Go.WideMaps Go.WideElems
theorem laid_u8 {H : Type} {enc : TypeId × Value → H} {P : Program} {W : World} {base n : Nat} {t e : TypeId} {spare : Nat → Bool} {held : Bool} {fuel : Nat} {cs : List Value} {ds : List (DataW H)} {p : List MemPlace} (ht : P.underlying t = some (.array n e)) (he : P.underlying e = some (.int .u8)) (hc : P.cellsOf e = 1) (hct : P.cellsOf t = n) (ns : List Nat) (hds : ds = ns.map fun k : Nat => .lit (.int .u8 (k : Int)))
    (hn : ns.length = n) (h : DataW.trod enc P W base spare held fuel t cs = some (.agg ds, p)) : ∀ i, i < n → cs[i]? = some (.int .u8 (ns.getD i 0 : Int)) := by
  intro i hi
  obtain ⟨xs, m, _, hx, hl, hxl, hel⟩ := DataW.trod_array ht h
  rw [hct] at hl
  simp only [Prod.mk.injEq, DataW.agg.injEq] at hx
  have hx1 := hx.1
  have h1 := hel i hi
  rw [hc, Nat.mul_one, List.drop_eq_getElem_cons (by omega), List.take_succ_cons, List.take_zero] at h1
  have h2 : xs[i]? = some xs[i] := List.getElem?_eq_getElem (by omega)
  rw [h2] at h1
  obtain ⟨k, e1, e2, _⟩ := DataW.trod_int he h1
  have h3 : (xs.map (·.1))[i]? = some (.lit (.int .u8 k)) := by rw [List.getElem?_map, h2, Option.map_some, e2]
  rw [← hx1, hds, List.getElem?_map, List.getElem?_eq_getElem (by omega), Option.map_some] at h3
  injection h3 with h3
  injection h3 with h3
  injection h3 with _ h3
  rw [List.getElem?_eq_getElem (by omega), List.getD_eq_getElem?_getD, List.getElem?_eq_getElem (by omega), Option.getD_some, h3]
  injection e1 with e1
  rw [e1]
def LB : List (String × DataW Unit) := [("math/bits.deBruijn64tab", Rows.laid_math_bits_deBruijn64tab)]
theorem gBr : Tryz.prog.globalNamed "math/bits.deBruijn64tab" = some 0 := by kernel_rfl
theorem tBr : (Tryz.prog.globals[0]?).map (·.type) = some 138 := by kernel_rfl
theorem brNs : (Rows.laid_math_bits_deBruijn64tab : DataW Unit) = .agg (Lib.deBruijn64tab.map fun k : Nat => .lit (.int .u8 (k : Int))) := by rfl
theorem door_metB (os : Os) (args : Array Value) : laidMetH Tryz.prog LB ((World.doorLaid Tryz.prog 400 os).forCall (fun _ _ => 0) ⟨#[], args, []⟩).memory :=
  laidMetH_of_parts3 (fuel := 8) (laidMet_of_run' 8 (by kernel_rfl) (by kernel_rfl)) (by kernel_rfl) (by kernel_rfl)
theorem dtab_of_laid {W : World} (h : laidMetH Tryz.prog LB W) : DTab W := by
  rw [MakeChecks.laidMetH_plain _ _ _ (by kernel_rfl)] at h
  obtain ⟨ps, ⟨g0, t0, cs0, f0, p0, q0, hg0, ht0, hv0, hd0, _, _⟩, _, _⟩ := h
  obtain rfl := Option.some.inj (gBr.symm.trans hg0)
  obtain rfl := Option.some.inj (tBr.symm.trans ht0)
  rw [brNs] at hd0
  have c0 := laid_u8 Tryz.underlying138 Tryz.underlying5 (by kernel_rfl) (by kernel_rfl) Lib.deBruijn64tab rfl rfl hd0
  have k0 : ∀ i, i < 64 → W.cell? ⟨0, i, none⟩ = some (.int .u8 (Lib.deBruijn64tab.getD i 0 : Int)) := by
    intro i hi
    have := World.var?_cell hg0 hv0 i
    rw [this]
    have hc := c0 i hi
    simpa using hc
  exact ⟨block_lt_of_cell (k0 0 (by omega)), k0⟩
end Go.Proofs.YtpmmolamdlcmnaaGreatDoor.Vc
namespace Go.Proofs.YtpmmolamdlcmnaaGreatDoor
open Go.ChangeShapes Go.WideShapes Go.ChangeAt Go.RowKit
theorem open_cbytes {H : Type} {enc : TypeId × Value → H} {P : Program} {W : World} {t e : TypeId} {fuel : Nat} {cs : List Value} {x : DataW H × List MemPlace}
    (ht : P.underlying t = some (.slice e)) (he : P.underlying e = some (.int .u8)) (hc : P.cellsOf e = 1) (hf : DataW.trod enc P W 0 (fun _ => true) true fuel t cs = some x) :
    ∃ (A : Option Addr) (n cap : Nat) (l : List UInt8), cs = [.slice A n cap] ∧ Row W W.heap.size A n (bv l) ∧ n ≤ cap ∧ cap ≤ 9223372036854775807 := by
  rcases open_ints ht he hc hf with ⟨hcs, hx⟩ | ⟨a, len, cap, zs, hcs, _, hl, hm, hz, hx, hcell, hwz⟩
  · exact ⟨none, 0, 0, [], hcs, Row.nil _ _ _, Nat.le_refl _, by omega⟩
  · unfold maxLen at hm
    simp at hz
    refine ⟨_, _, _, _, hcs, row_of_ints (by omega) hcell hwz ?_, hl, by omega⟩
    rcases Nat.eq_zero_or_pos len with h0 | h0
    · exact .inr h0
    · left
      have := block_lt_of_cell (hcell 0 (by omega))
      simpa [Addr.add] using this
theorem open_cu32 {H : Type} {enc : TypeId × Value → H} {P : Program} {W : World} {t : TypeId} {fuel : Nat} {cs : List Value} {x : DataW H × List MemPlace}
    (ht : P.underlying t = some (.int .u32)) (hf : DataW.trod enc P W 0 (fun _ => true) true fuel t cs = some x) : ∃ n : Nat, cs = [.int .u32 (n : Int)] ∧ n < 4294967296 := by
  obtain ⟨x, hx, _, wx⟩ := DataW.trod_int ht hf
  have hb : 0 ≤ x ∧ x ≤ 4294967295 := by simpa [Lit.wf, IntKind.min, IntKind.max, IntKind.signed, IntKind.bits] using wx
  exact ⟨x.toNat, by rw [hx]; congr 2; omega, by omega⟩
theorem open_sym {H : Type} {enc : TypeId × Value → H} {P : Program} {W : World} {base : Nat} {t e : TypeId} {v : Value} {d : DataW H} {ps : List MemPlace} {f0 f1 f2 : Field}
    (ht : P.underlying t = some (.struct #[f0, f1, f2])) (ho : f0.offset = 0 ∧ f1.offset = 1 ∧ f2.offset = 2) (h0 : P.underlying f0.type = some (.int .u32)) (h1 : P.underlying f1.type = some (.int .u32)) (h2 : P.underlying f2.type = some (.slice e))
    (he : P.underlying e = some (.int .u8)) (hc : P.cellsOf e = 1) (hcs : P.cellsOf f0.type = 1 ∧ P.cellsOf f1.type = 1 ∧ P.cellsOf f2.type = 1) (hct : P.cellsOf t = 3)
    (hval : Value.okWide P W .any base t v) (h : DataW.Trod enc P W 0 (fun _ => true) true t v d ps) :
    ∃ (s id : Nat) (A : Option Addr) (n cap : Nat) (l : List UInt8), v = .agg #[.int .u32 (s : Int), .int .u32 (id : Int), .slice A n cap] ∧ s < 4294967296 ∧ id < 4294967296 ∧ Row W W.heap.size A n (bv l) ∧ n ≤ cap ∧ cap ≤ 9223372036854775807 := by
  have hv := hval
  unfold Value.okWide at hv
  rw [ht] at hv
  obtain ⟨cs, rfl, hsz, _⟩ := hv
  rw [hct] at hsz
  obtain ⟨fuel, hf⟩ := h
  obtain ⟨xs, m, _, _, _, hxl, hx⟩ := DataW.trod_struct ht hf
  obtain ⟨c0, c1, c2, rfl⟩ : ∃ c0 c1 c2, cs = #[c0, c1, c2] := by
    match cs, hsz with
    | ⟨[c0, c1, c2]⟩, _ => exact ⟨c0, c1, c2, rfl⟩
  have e1 : (Value.agg #[c0, c1, c2]).cells.toList = [c0, c1, c2] := rfl
  have hxl3 : xs.length = 3 := hxl
  have g0 := hx 0 f0 rfl
  have g1 := hx 1 f1 rfl
  have g2 := hx 2 f2 rfl
  rw [e1, ho.1, hcs.1, List.getElem?_eq_getElem (by omega)] at g0
  rw [e1, ho.2.1, hcs.2.1, List.getElem?_eq_getElem (by omega)] at g1
  rw [e1, ho.2.2, hcs.2.2, List.getElem?_eq_getElem (by omega)] at g2
  obtain ⟨s, hs, hsl⟩ := open_cu32 h0 g0
  obtain ⟨id, hi, hil⟩ := open_cu32 h1 g1
  obtain ⟨A, n, cap, l, hd, hrow, hn, hcap⟩ := open_cbytes h2 he hc g2
  simp at hs hi hd
  subst hs hi hd
  exact ⟨s, id, A, n, cap, l, rfl, hsl, hil, hrow, hn, hcap⟩
end Go.Proofs.YtpmmolamdlcmnaaGreatDoor
namespace Go.Proofs.YtpmmolamdlcmnaaGreatDoor
open Go.ChangeShapes Go.WideShapes Go.ChangeAt Go.RowKit
theorem open_c2 {H : Type} {enc : TypeId × Value → H} {P : Program} {W : World} {base : Nat} {t e : TypeId} {v : Value} {d : DataW H} {ps : List MemPlace} {f0 f1 : Field}
    (ht : P.underlying t = some (.struct #[f0, f1])) (ho : f0.offset = 0 ∧ f1.offset = 1) (h0 : P.underlying f0.type = some (.int .u32)) (h1 : P.underlying f1.type = some (.slice e))
    (he : P.underlying e = some (.int .u8)) (hc : P.cellsOf e = 1) (hcs : P.cellsOf f0.type = 1 ∧ P.cellsOf f1.type = 1) (hct : P.cellsOf t = 2)
    (hval : Value.okWide P W .any base t v) (h : DataW.Trod enc P W 0 (fun _ => true) true t v d ps) :
    ∃ (id : Nat) (A : Option Addr) (n cap : Nat) (l : List UInt8), v = .agg #[.int .u32 (id : Int), .slice A n cap] ∧ id < 4294967296 ∧ Row W W.heap.size A n (bv l) ∧ n ≤ cap ∧ cap ≤ 9223372036854775807 := by
  have hv := hval
  unfold Value.okWide at hv
  rw [ht] at hv
  obtain ⟨cs, rfl, hsz, _⟩ := hv
  rw [hct] at hsz
  obtain ⟨fuel, hf⟩ := h
  obtain ⟨xs, m, _, _, _, hxl, hx⟩ := DataW.trod_struct ht hf
  obtain ⟨c0, c1, rfl⟩ : ∃ c0 c1, cs = #[c0, c1] := by
    match cs, hsz with
    | ⟨[c0, c1]⟩, _ => exact ⟨c0, c1, rfl⟩
  have e1 : (Value.agg #[c0, c1]).cells.toList = [c0, c1] := rfl
  have hxl3 : xs.length = 2 := hxl
  have g0 := hx 0 f0 rfl
  have g1 := hx 1 f1 rfl
  rw [e1, ho.1, hcs.1, List.getElem?_eq_getElem (by omega)] at g0
  rw [e1, ho.2, hcs.2, List.getElem?_eq_getElem (by omega)] at g1
  obtain ⟨id, hi, hil⟩ := open_cu32 h0 g0
  obtain ⟨A, n, cap, l, hd, hrow, hn, hcap⟩ := open_cbytes h1 he hc g1
  simp at hi hd
  subst hi hd
  exact ⟨id, A, n, cap, l, rfl, hil, hrow, hn, hcap⟩
end Go.Proofs.YtpmmolamdlcmnaaGreatDoor
namespace Go.Proofs.YtpmmolamdlcmnaaGreatDoor
open Go.ChangeShapes Go.WideShapes Go.ChangeAt Go.RowKit
theorem open_ci64 {H : Type} {enc : TypeId × Value → H} {P : Program} {W : World} {t : TypeId} {fuel : Nat} {cs : List Value} {x : DataW H × List MemPlace}
    (ht : P.underlying t = some (.int .i64)) (hf : DataW.trod enc P W 0 (fun _ => true) true fuel t cs = some x) : ∃ n : Int, cs = [.int .i64 n] ∧ -9223372036854775808 ≤ n ∧ n ≤ 9223372036854775807 := by
  obtain ⟨x, hx, _, wx⟩ := DataW.trod_int ht hf
  have hb : -9223372036854775808 ≤ x ∧ x ≤ 9223372036854775807 := by simpa [Lit.wf, IntKind.min, IntKind.max, IntKind.signed, IntKind.bits] using wx
  exact ⟨x, hx, hb.1, hb.2⟩
theorem open_par {H : Type} {enc : TypeId × Value → H} {P : Program} {W : World} {base : Nat} {t : TypeId} {v : Value} {d : DataW H} {ps : List MemPlace} {f0 f1 f2 f3 : Field}
    (ht : P.underlying t = some (.struct #[f0, f1, f2, f3])) (ho : f0.offset = 0 ∧ f1.offset = 1 ∧ f2.offset = 2 ∧ f3.offset = 3) (h0 : P.underlying f0.type = some (.int .u32)) (h1 : P.underlying f1.type = some (.int .i64)) (h2 : P.underlying f2.type = some (.int .i64)) (h3 : P.underlying f3.type = some (.int .i64))
    (hcs : P.cellsOf f0.type = 1 ∧ P.cellsOf f1.type = 1 ∧ P.cellsOf f2.type = 1 ∧ P.cellsOf f3.type = 1) (hct : P.cellsOf t = 4)
    (hval : Value.okWide P W .any base t v) (h : DataW.Trod enc P W 0 (fun _ => true) true t v d ps) :
    ∃ (s : Nat) (K L Z : Int), v = .agg #[.int .u32 (s : Int), .int .i64 K, .int .i64 L, .int .i64 Z] ∧ s < 4294967296 ∧ (-9223372036854775808 ≤ K ∧ K ≤ 9223372036854775807) ∧ (-9223372036854775808 ≤ L ∧ L ≤ 9223372036854775807) ∧ (-9223372036854775808 ≤ Z ∧ Z ≤ 9223372036854775807) := by
  have hv := hval
  unfold Value.okWide at hv
  rw [ht] at hv
  obtain ⟨cs, rfl, hsz, _⟩ := hv
  rw [hct] at hsz
  obtain ⟨fuel, hf⟩ := h
  obtain ⟨xs, m, _, _, _, hxl, hx⟩ := DataW.trod_struct ht hf
  obtain ⟨c0, c1, c2, c3, rfl⟩ : ∃ c0 c1 c2 c3, cs = #[c0, c1, c2, c3] := by
    match cs, hsz with
    | ⟨[c0, c1, c2, c3]⟩, _ => exact ⟨c0, c1, c2, c3, rfl⟩
  have e1 : (Value.agg #[c0, c1, c2, c3]).cells.toList = [c0, c1, c2, c3] := rfl
  have hxl4 : xs.length = 4 := hxl
  have g0 := hx 0 f0 rfl
  have g1 := hx 1 f1 rfl
  have g2 := hx 2 f2 rfl
  have g3 := hx 3 f3 rfl
  rw [e1, ho.1, hcs.1, List.getElem?_eq_getElem (by omega)] at g0
  rw [e1, ho.2.1, hcs.2.1, List.getElem?_eq_getElem (by omega)] at g1
  rw [e1, ho.2.2.1, hcs.2.2.1, List.getElem?_eq_getElem (by omega)] at g2
  rw [e1, ho.2.2.2, hcs.2.2.2, List.getElem?_eq_getElem (by omega)] at g3
  obtain ⟨s, hs, hsl⟩ := open_cu32 h0 g0
  obtain ⟨K, hK, hKl⟩ := open_ci64 h1 g1
  obtain ⟨L, hL, hLl⟩ := open_ci64 h2 g2
  obtain ⟨Z, hZ, hZl⟩ := open_ci64 h3 g3
  simp at hs hK hL hZ
  subst hs hK hL hZ
  exact ⟨s, K, L, Z, rfl, hsl, hKl, hLl, hZl⟩
end Go.Proofs.YtpmmolamdlcmnaaGreatDoor
namespace Go.Proofs.YtpmmolamdlcmnaaGreatDoor.Dc
open Go.RowKit
open VecM RdM Vc Sp Pc El Cd
/-- the rows behind i symbols, f telling their numbers -/
def matF (s K P Z : Nat) (img : List UInt8) (f : Nat → Nat) : Nat → Mx
  | 0 => matR s K P Z P
  | i + 1 => (addMx (K + P) (matF s K P Z img f i) (spX s K P (f i)) (symX s K P Z img (f i))).1
theorem matF_got {s K P Z : Nat} {img : List UInt8} (f : Nat → Nat) (hK : 1 ≤ K) (hn : K + P ≤ 80) : ∀ i, Got (K + P) Z (matF s K P Z img f i) (fun X => parP s K P X ∨ ∃ j, j < i ∧ X = spX s K P (f j))
  | 0 => (matR_got hn P (Nat.le_refl _)).congr fun X => ⟨.inl, fun h => h.elim id fun ⟨j, hj, _⟩ => absurd hj (Nat.not_lt_zero j)⟩
  | i + 1 => by
    refine ((matF_got f hK hn i).add (by omega) (spX_lt (s := s) (id := f i)) (l := symX s K P Z img (f i)) (symX_length hK hn)).congr fun X => ⟨?_, ?_⟩
    · rintro ((h | ⟨j, hj, e⟩) | e)
      · exact .inl h
      · exact .inr ⟨j, by omega, e⟩
      · exact .inr ⟨i, by omega, e⟩
    · rintro (h | ⟨j, hj, e⟩)
      · exact .inl (.inl h)
      · by_cases h : j < i
        · exact .inl (.inr ⟨j, h, e⟩)
        · exact .inr (by rw [e, show j = i by omega])
theorem matF_data {s K P Z : Nat} {img : List UInt8} (f : Nat → Nat) (hK : 1 ≤ K) (hn : K + P ≤ 80) : ∀ i, DataOf (dataX s K P Z img) (matF s K P Z img f i)
  | 0 => matR_data hn P (Nat.le_refl _)
  | i + 1 => by
    have h := (matF_data (s := s) (Z := Z) (img := img) f hK hn i).add (dataX_add s K P Z img) (matF_got f hK hn i).inv (by omega) (spX_lt (s := s) (id := f i)) (dataX_length _ _ _ _ _ _)
    rw [dataX_sym hK hn] at h
    exact h
theorem matF_step {s K P Z : Nat} {img : List UInt8} (f : Nat → Nat) (hK : 1 ≤ K) (hn : K + P ≤ 80) (i : Nat) : rankM (matF s K P Z img f (i + 1)) = rankM (matF s K P Z img f i) + if (addMx (K + P) (matF s K P Z img f i) (spX s K P (f i)) (symX s K P Z img (f i))).2 then 1 else 0 :=
  rank_add (matF_got f hK hn i).inv (by omega) (spX_lt (s := s) (id := f i)) (symX_length hK hn)
theorem matF_ge {s K P Z : Nat} {img : List UInt8} (f : Nat → Nat) (hK : 1 ≤ K) (hn : K + P ≤ 80) : ∀ i, P ≤ rankM (matF s K P Z img f i)
  | 0 => by show P ≤ rankM (matR s K P Z P); rw [matR_rank hn P (Nat.le_refl _)]; exact Nat.le_refl _
  | i + 1 => by rw [matF_step f hK hn i]; have := matF_ge (s := s) (Z := Z) (img := img) f hK hn i; omega
/-- how many were taken -/
def tkF (s K P Z : Nat) (img : List UInt8) (f : Nat → Nat) (i : Nat) : Nat := rankM (matF s K P Z img f i) - P
theorem tkF_zero {s K P Z : Nat} {img : List UInt8} (f : Nat → Nat) (hn : K + P ≤ 80) : tkF s K P Z img f 0 = 0 := by
  show rankM (matR s K P Z P) - P = 0
  rw [matR_rank hn P (Nat.le_refl _), Nat.sub_self]
theorem tkF_step {s K P Z : Nat} {img : List UInt8} (f : Nat → Nat) (hK : 1 ≤ K) (hn : K + P ≤ 80) (i : Nat) : tkF s K P Z img f i + (if (addMx (K + P) (matF s K P Z img f i) (spX s K P (f i)) (symX s K P Z img (f i))).2 then 1 else 0) = tkF s K P Z img f (i + 1) := by
  unfold tkF
  rw [matF_step f hK hn i]
  have := matF_ge (s := s) (Z := Z) (img := img) f hK hn i
  omega
theorem tkF_le {s K P Z : Nat} {img : List UInt8} (f : Nat → Nat) (hK : 1 ≤ K) (hn : K + P ≤ 80) (i : Nat) : tkF s K P Z img f i ≤ 80 := by
  have := rank_le (matF_got (s := s) (Z := Z) (img := img) f hK hn i).inv
  unfold tkF; omega
theorem turn_back {n t j : Nat} (hj : j < n) : ∃ i, i < n ∧ (i + t) % n = j := by
  have hn : 0 < n := by omega
  have ht : t % n < n := Nat.mod_lt _ hn
  have e : t = t % n + n * (t / n) := (Nat.mod_add_div t n).symm
  by_cases h : t % n ≤ j
  · refine ⟨j - t % n, by omega, ?_⟩
    have : j - t % n + t = j + n * (t / n) := by omega
    rw [this, Nat.add_mul_mod_self_left, Nat.mod_eq_of_lt hj]
  · refine ⟨j + n - t % n, by omega, ?_⟩
    have : j + n - t % n + t = j + n + n * (t / n) := by omega
    rw [this, Nat.add_mul_mod_self_left, Nat.add_mod_right, Nat.mod_eq_of_lt hj]
/-- the order of what is heard does not matter -/
theorem matF_turn {s K P Z : Nat} {img : List UInt8} (f : Nat → Nat) (t n : Nat) (hK : 1 ≤ K) (hn : K + P ≤ 80) : matF s K P Z img (fun i => f ((i + t) % n)) n = matF s K P Z img f n := by
  refine same_matrix (matF_got _ hK hn n).inv (matF_got f hK hn n).inv (fun X => ?_) (matF_data _ hK hn n) (matF_data f hK hn n)
  rw [(matF_got (fun i => f ((i + t) % n)) hK hn n).ker, (matF_got f hK hn n).ker]
  refine ⟨fun h => h.mono fun Y hY => .one ?_, fun h => h.mono fun Y hY => .one ?_⟩
  · rcases hY with h | ⟨j, hj, e⟩
    · exact .inl h
    · exact .inr ⟨(j + t) % n, Nat.mod_lt _ (by omega), e⟩
  · rcases hY with h | ⟨j, hj, e⟩
    · exact .inl h
    · obtain ⟨i, hi, e2⟩ := turn_back (t := t) hj
      exact .inr ⟨i, hi, by rw [e]; show _ = spX s K P (f ((i + t) % n)); rw [e2]⟩
end Go.Proofs.YtpmmolamdlcmnaaGreatDoor.Dc
