/- A law's row that lists package-level variables: closed by one walk, as law_lift closes one without. -/
import Derived.ProofKit
import Derived.LaidMore
import Derived.LaidLaws
import Derived.Stop.Joined
import Derived.SevenTiedAt
import Derived.Test.YtmncpgfdpcckpaaGreatDoorZHQN
import Derived.Test.YtmncpgfdpcckpaaGreatDoorZBQN
import Derived.Test.YtmncpgfdpcckpaaGreatDoorZOQN
import Derived.Test.YtmncpgfdpcckpaaGreatDoorTie
import Derived.Test.YtmncpgfdpcckpaaGreatDoorCards
namespace Go.Proofs.YtmncpgfdpcckpaaGreatDoor
open Go.ChangeShapes Go.WideShapes Go.ChangeAt Go.RowKit
theorem law_lift_laid {C : Checked} {os : Os} {f : FuncId} {fn : Func} {s : ChangeSpec} {conds : List PathCond} {H : Type} {enc : TypeId × Value → H} {tb : TypeId} {X : World → Array Value → Prop}
  (hX : ∀ (w w' : World) (args : Array Value), w.heap = w'.heap → X w args → X w' args)
  (own : ownKnob C.prog.godebug = none) (started : os.Started) (noInit : C.prog.inits.idxOf? f = none) (hfn : C.prog.funcs[f]? = some fn)
  (witness : ∃ (w : World) (tape : Tape) (i : Input), w.os = os ∧ (w.forCall tape i).Shaped C.prog ∧ i.vars = [] ∧ Input.okWide C.prog (w.forCall tape i) .any w.heap.size f i ∧
   ((s.pre enc C.prog fn conds false (w.forCall tape i).memory i.args ∧ X (w.forCall tape i).memory i.args) ∧ sizedMet enc C.prog fn (OpenSpec.ofChange s) false (w.forCall tape i).memory i.args) ∧ ({} : Assume).holds C.prog (lone (Frame.enter C.prog f i.args .normal) [] (w.forCall tape i)))
  (hl : laidOutB C.prog = true) (hr : (fn.params.toList.all fun t => C.prog.readableRec t && decide (t < C.prog.types.size)) = true)
  (hv : s.vars = []) (hres : fn.resultTypes = #[tb]) (htb : C.prog.underlying tb = some .bool)
  (hspec : ∀ ds : List (DataW H), ds.length = fn.params.toList.length → s.fn H ds = { results := [.lit (.bool true)], args := ds })
  (walk : ∀ (W : World) (base : Nat) (args : Array Value) (ds : List (DataW H)) (p : List MemPlace),
   (∀ (j : Nat) t v, fn.params[j]? = some t → args[j]? = some v → Value.okWide C.prog W .any base t v) →
   DataW.TrodAll enc C.prog W 0 (fun _ => true) true fn.params.toList args.toList ds p → (∀ x ∈ p, x.block < W.heap.size) →
   conds.all (PathCond.test C.prog ⟨fn.params.toList, ds, s.plain.varTypes C.prog, []⟩) = true →
   (DataW.weightsEach C.prog fn.params.toList ds).all (· ≤ reachBytes) = true → X W args →
   Calls C.prog f args W fun e W' => e = .returned (.bool true) ∧ Below W.heap.size W W') :
  ReturnsInHanded {} C os f .any (fun w args => (s.pre enc C.prog fn conds false w args ∧ X w args) ∧ sizedMet enc C.prog fn (OpenSpec.ofChange s) false w args) (s.post enc C.prog fn false true false false) := by
 refine returnsInHanded_of_change_and hX own started noInit hfn witness ?_
 intro W base args ds gs before hval hW hcnd hsz hx _
 have hW' := hW
 obtain ⟨p, q, hA, hV, rfl, hfz, hnd⟩ := hW
 rw [hv] at hV
 obtain ⟨rfl, rfl⟩ := trodVars_none hV
 have hlt : ∀ x ∈ p, x.block < W.heap.size := fun x hx => hW'.lt x (by simp [hx])
 have hvt : s.plain.varTypes C.prog = [] := by simp [ChangeSpec.plain, DataSpec.varTypes, hv]
 rw [List.append_nil, hvt, List.append_nil] at hsz
 refine (walk W base args ds p hval hA hlt hcnd hsz hx).mono fun e W' ⟨he, hb⟩ => ⟨_, he, ?_⟩
 have hs : s.fn H (ds ++ []) = { results := [.lit (.bool true)], args := ds } := by rw [List.append_nil]; exact hspec ds (trodAll_length hA)
 refine ⟨ds, [], p ++ [], [], p, [], hW', ?_, ?_, ?_, hb.frame _, fun h => by cases h⟩
 ·rw [hs, hres]
  exact trodAll_mk1 (shut_bool htb _)
 ·rw [hs]
  exact trodAll_below hl hb hr hlt hA
 ·rw [hs, hv]
  rfl
end Go.Proofs.YtmncpgfdpcckpaaGreatDoor
namespace Go.Proofs.YtmncpgfdpcckpaaGreatDoor.Car
open Go.RowKit Go.ChangeShapes Go.WideShapes Go.ChangeAt Go.WideMaps Go.WideElems
theorem laid_u8 {H : Type} {enc : TypeId × Value → H} {P : Program} {W : World} {base n : Nat} {t e : TypeId} {spare : Nat → Bool} {held : Bool} {fuel : Nat} {cs : List Value} {ds : List (DataW H)} {p : List MemPlace} (ht : P.underlying t = some (.array n e)) (he : P.underlying e = some (.int .u8)) (hc : P.cellsOf e = 1) (hct : P.cellsOf t = n) (ns : List Nat) (hds : ds = ns.map fun k : Nat => .lit (.int .u8 (k : Int)))
  (hn : ns.length = n) (h : DataW.trod enc P W base spare held fuel t cs = some (.agg ds, p)) : ∀ i, i < n → cs[i]? = some (.int .u8 (ns.getD i 0 : Int)) := by
 intro i hi
 obtain ⟨xs, m, _, hx, hl, hxl, hel⟩ := DataW.trod_array ht h
 rw [hct] at hl
 simp only [Prod.mk.injEq, DataW.agg.injEq] at hx
 have hx1 := hx.1
 have h1 := hel i hi
 rw [hc, Nat.mul_one, List.drop_eq_getElem_cons (by omega), List.take_succ_cons, List.take_zero] at h1
 have h2 : xs[i]? = some xs[i] := List.getElem?_eq_getElem (by omega)
 rw [h2] at h1
 obtain ⟨k, e1, e2, _⟩ := DataW.trod_int he h1
 have h3 : (xs.map (·.1))[i]? = some (.lit (.int .u8 k)) := by rw [List.getElem?_map, h2, Option.map_some, e2]
 rw [← hx1, hds, List.getElem?_map, List.getElem?_eq_getElem (by omega), Option.map_some] at h3
 injection h3 with h3
 injection h3 with h3
 injection h3 with _ h3
 rw [List.getElem?_eq_getElem (by omega), List.getD_eq_getElem?_getD, List.getElem?_eq_getElem (by omega), Option.getD_some, h3]
 injection e1 with e1
 rw [e1]
theorem laid_u32 {H : Type} {enc : TypeId × Value → H} {P : Program} {W : World} {base n : Nat} {t e : TypeId} {spare : Nat → Bool} {held : Bool} {fuel : Nat} {cs : List Value} {ds : List (DataW H)} {p : List MemPlace} (ht : P.underlying t = some (.array n e)) (he : P.underlying e = some (.int .u32)) (hc : P.cellsOf e = 1) (hct : P.cellsOf t = n) (ns : List Nat) (hds : ds = ns.map fun k : Nat => .lit (.int .u32 (k : Int)))
  (hn : ns.length = n) (h : DataW.trod enc P W base spare held fuel t cs = some (.agg ds, p)) : ∀ i, i < n → cs[i]? = some (.int .u32 (ns.getD i 0 : Int)) := by
 intro i hi
 obtain ⟨xs, m, _, hx, hl, hxl, hel⟩ := DataW.trod_array ht h
 rw [hct] at hl
 simp only [Prod.mk.injEq, DataW.agg.injEq] at hx
 have hx1 := hx.1
 have h1 := hel i hi
 rw [hc, Nat.mul_one, List.drop_eq_getElem_cons (by omega), List.take_succ_cons, List.take_zero] at h1
 have h2 : xs[i]? = some xs[i] := List.getElem?_eq_getElem (by omega)
 rw [h2] at h1
 obtain ⟨k, e1, e2, _⟩ := DataW.trod_int he h1
 have h3 : (xs.map (·.1))[i]? = some (.lit (.int .u32 k)) := by rw [List.getElem?_map, h2, Option.map_some, e2]
 rw [← hx1, hds, List.getElem?_map, List.getElem?_eq_getElem (by omega), Option.map_some] at h3
 injection h3 with h3
 injection h3 with h3
 injection h3 with _ h3
 rw [List.getElem?_eq_getElem (by omega), List.getD_eq_getElem?_getD, List.getElem?_eq_getElem (by omega), Option.getD_some, h3]
 injection e1 with e1
 rw [e1]
def LB : List (String × DataW Unit) := [("math/bits.deBruijn64tab", Rows.laid_math_bits_deBruijn64tab), ("downpour/digest.first", Rows.laid_downpour_digest_first), ("downpour/digest.constants", Rows.laid_downpour_digest_constants)]
theorem gBr : Tryz.prog.globalNamed "math/bits.deBruijn64tab" = some 1 := by kernel_rfl
theorem tBr : (Tryz.prog.globals[1]?).map (·.type) = some 173 := by kernel_rfl
theorem brNs : (Rows.laid_math_bits_deBruijn64tab : DataW Unit) = .agg (Lib.deBruijn64tab.map fun k : Nat => .lit (.int .u8 (k : Int))) := by rfl
theorem gFirst : Tryz.prog.globalNamed "downpour/digest.first" = some 0 := by kernel_rfl
theorem gConst : Tryz.prog.globalNamed "downpour/digest.constants" = some 2 := by kernel_rfl
theorem tFirst : (Tryz.prog.globals[0]?).map (·.type) = some 134 := by kernel_rfl
theorem tConst : (Tryz.prog.globals[2]?).map (·.type) = some 135 := by kernel_rfl
theorem firstNs : (Rows.laid_downpour_digest_first : DataW Unit) = .agg ((List.range 8).map Sha.first.get |>.map fun k : Nat => .lit (.int .u32 (k : Int))) := by rfl
theorem constNs : (Rows.laid_downpour_digest_constants : DataW Unit) = .agg (Sha.ks.map fun k : Nat => .lit (.int .u32 (k : Int))) := by rfl
theorem door_metB (os : Os) (args : Array Value) : laidMetH Tryz.prog LB ((World.doorLaid Tryz.prog 400 os).forCall (fun _ _ => 0) ⟨#[], args, []⟩).memory :=
 laidMetH_of_parts3 (fuel := 8) (laidMet_of_run' 8 (by kernel_rfl) (by kernel_rfl)) (by kernel_rfl) (by kernel_rfl)
theorem tabs_of_laid {W : World} (h : laidMetH Tryz.prog LB W) : Sh.Tab W ∧ Vc.DTab W := by
 rw [MakeChecks.laidMetH_plain _ _ _ (by kernel_rfl)] at h
 obtain ⟨ps, ⟨g0, t0, cs0, f0, p0, q0, hg0, ht0, hv0, hd0, ⟨g1, t1, cs1, f1, p1, q1, hg1, ht1, hv1, hd1, ⟨g2, t2, cs2, f2, p2, q2, hg2, ht2, hv2, hd2, _, _⟩, _⟩, _⟩, _, _⟩ := h
 obtain rfl := Option.some.inj (gBr.symm.trans hg0)
 obtain rfl := Option.some.inj (gFirst.symm.trans hg1)
 obtain rfl := Option.some.inj (gConst.symm.trans hg2)
 obtain rfl := Option.some.inj (tBr.symm.trans ht0)
 obtain rfl := Option.some.inj (tFirst.symm.trans ht1)
 obtain rfl := Option.some.inj (tConst.symm.trans ht2)
 rw [brNs] at hd0
 rw [firstNs] at hd1
 rw [constNs] at hd2
 have c0 := laid_u8 Tryz.underlying173 Tryz.underlying5 (by kernel_rfl) (by kernel_rfl) Lib.deBruijn64tab rfl rfl hd0
 have c1 := laid_u32 Tryz.underlying134 Tryz.underlying32 (by kernel_rfl) (by kernel_rfl) ((List.range 8).map Sha.first.get) rfl (by rw [List.length_map, List.length_range]) hd1
 have c2 := laid_u32 Tryz.underlying135 Tryz.underlying32 (by kernel_rfl) (by kernel_rfl) Sha.ks rfl rfl hd2
 have k0 : ∀ i, i < 64 → W.cell? ⟨1, i, none⟩ = some (.int .u8 (Lib.deBruijn64tab.getD i 0 : Int)) := by
  intro i hi
  have := World.var?_cell hg0 hv0 i
  rw [this]
  have hc := c0 i hi
  simpa using hc
 have k1 : ∀ i, i < 8 → W.cell? ⟨0, i, none⟩ = some (.int .u32 (Sha.first.get i : Int)) := by
  intro i hi
  have := World.var?_cell hg1 hv1 i
  rw [this]
  have hc := c1 i hi
  rw [List.getD_eq_getElem?_getD, List.getElem?_map, List.getElem?_range hi] at hc
  simpa using hc
 have k2 : ∀ i, i < 64 → W.cell? ⟨2, i, none⟩ = some (.int .u32 (Sha.ks.getD i 0 : Int)) := by
  intro i hi
  have := World.var?_cell hg2 hv2 i
  rw [this]
  have hc := c2 i hi
  simpa using hc
 have h2 : 2 < W.heap.size := by simpa using block_lt_of_cell (k2 0 (by omega))
 exact ⟨⟨h2, k1, k2⟩, block_lt_of_cell (k0 0 (by omega)), k0⟩
end Go.Proofs.YtmncpgfdpcckpaaGreatDoor.Car
