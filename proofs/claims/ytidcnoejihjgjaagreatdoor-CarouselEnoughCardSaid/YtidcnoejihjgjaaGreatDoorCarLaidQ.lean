/- What the listed variables give the walks of layer 26; the world of the witness. -/
import Derived.SevenTiedAt
import Derived.Test.YtidcnoejihjgjaaGreatDoorZBQ
import Derived.Test.YtidcnoejihjgjaaGreatDoorZOQ
import Derived.Test.YtidcnoejihjgjaaGreatDoorLawLaidQ
import Derived.Test.YtidcnoejihjgjaaGreatDoorTie
import Derived.Test.YtidcnoejihjgjaaGreatDoorCards
namespace Go.Proofs.YtidcnoejihjgjaaGreatDoor.Car
open Go.RowKit Go.ChangeShapes Go.WideShapes Go.ChangeAt Go.WideMaps Go.WideElems
theorem laid_u8 {H : Type} {enc : TypeId × Value → H} {P : Program} {W : World} {base n : Nat} {t e : TypeId} {spare : Nat → Bool} {held : Bool} {fuel : Nat} {cs : List Value} {ds : List (DataW H)} {p : List MemPlace} (ht : P.underlying t = some (.array n e)) (he : P.underlying e = some (.int .u8)) (hc : P.cellsOf e = 1) (hct : P.cellsOf t = n) (ns : List Nat) (hds : ds = ns.map fun k : Nat => .lit (.int .u8 (k : Int)))
    (hn : ns.length = n) (h : DataW.trod enc P W base spare held fuel t cs = some (.agg ds, p)) : ∀ i, i < n → cs[i]? = some (.int .u8 (ns.getD i 0 : Int)) := by
  intro i hi
  obtain ⟨xs, m, _, hx, hl, hxl, hel⟩ := DataW.trod_array ht h
  rw [hct] at hl
  simp only [Prod.mk.injEq, DataW.agg.injEq] at hx
  have hx1 := hx.1
  have h1 := hel i hi
  rw [hc, Nat.mul_one, List.drop_eq_getElem_cons (by omega), List.take_succ_cons, List.take_zero] at h1
  have h2 : xs[i]? = some xs[i] := List.getElem?_eq_getElem (by omega)
  rw [h2] at h1
  obtain ⟨k, e1, e2, _⟩ := DataW.trod_int he h1
  have h3 : (xs.map (·.1))[i]? = some (.lit (.int .u8 k)) := by rw [List.getElem?_map, h2, Option.map_some, e2]
  rw [← hx1, hds, List.getElem?_map, List.getElem?_eq_getElem (by omega), Option.map_some] at h3
  injection h3 with h3
  injection h3 with h3
  injection h3 with _ h3
  rw [List.getElem?_eq_getElem (by omega), List.getD_eq_getElem?_getD, List.getElem?_eq_getElem (by omega), Option.getD_some, h3]
  injection e1 with e1
  rw [e1]
theorem laid_u32 {H : Type} {enc : TypeId × Value → H} {P : Program} {W : World} {base n : Nat} {t e : TypeId} {spare : Nat → Bool} {held : Bool} {fuel : Nat} {cs : List Value} {ds : List (DataW H)} {p : List MemPlace} (ht : P.underlying t = some (.array n e)) (he : P.underlying e = some (.int .u32)) (hc : P.cellsOf e = 1) (hct : P.cellsOf t = n) (ns : List Nat) (hds : ds = ns.map fun k : Nat => .lit (.int .u32 (k : Int)))
    (hn : ns.length = n) (h : DataW.trod enc P W base spare held fuel t cs = some (.agg ds, p)) : ∀ i, i < n → cs[i]? = some (.int .u32 (ns.getD i 0 : Int)) := by
  intro i hi
  obtain ⟨xs, m, _, hx, hl, hxl, hel⟩ := DataW.trod_array ht h
  rw [hct] at hl
  simp only [Prod.mk.injEq, DataW.agg.injEq] at hx
  have hx1 := hx.1
  have h1 := hel i hi
  rw [hc, Nat.mul_one, List.drop_eq_getElem_cons (by omega), List.take_succ_cons, List.take_zero] at h1
  have h2 : xs[i]? = some xs[i] := List.getElem?_eq_getElem (by omega)
  rw [h2] at h1
  obtain ⟨k, e1, e2, _⟩ := DataW.trod_int he h1
  have h3 : (xs.map (·.1))[i]? = some (.lit (.int .u32 k)) := by rw [List.getElem?_map, h2, Option.map_some, e2]
  rw [← hx1, hds, List.getElem?_map, List.getElem?_eq_getElem (by omega), Option.map_some] at h3
  injection h3 with h3
  injection h3 with h3
  injection h3 with _ h3
  rw [List.getElem?_eq_getElem (by omega), List.getD_eq_getElem?_getD, List.getElem?_eq_getElem (by omega), Option.getD_some, h3]
  injection e1 with e1
  rw [e1]
def LB : List (String × DataW Unit) := [("math/bits.deBruijn64tab", Rows.laid_math_bits_deBruijn64tab), ("downpour/digest.first", Rows.laid_downpour_digest_first), ("downpour/digest.constants", Rows.laid_downpour_digest_constants)]
theorem gBr : Tryz.prog.globalNamed "math/bits.deBruijn64tab" = some 1 := by kernel_rfl
theorem tBr : (Tryz.prog.globals[1]?).map (·.type) = some 95 := by kernel_rfl
theorem brNs : (Rows.laid_math_bits_deBruijn64tab : DataW Unit) = .agg (Lib.deBruijn64tab.map fun k : Nat => .lit (.int .u8 (k : Int))) := by rfl
theorem gFirst : Tryz.prog.globalNamed "downpour/digest.first" = some 0 := by kernel_rfl
theorem gConst : Tryz.prog.globalNamed "downpour/digest.constants" = some 2 := by kernel_rfl
theorem tFirst : (Tryz.prog.globals[0]?).map (·.type) = some 63 := by kernel_rfl
theorem tConst : (Tryz.prog.globals[2]?).map (·.type) = some 64 := by kernel_rfl
theorem firstNs : (Rows.laid_downpour_digest_first : DataW Unit) = .agg ((List.range 8).map Sha.first.get |>.map fun k : Nat => .lit (.int .u32 (k : Int))) := by rfl
theorem constNs : (Rows.laid_downpour_digest_constants : DataW Unit) = .agg (Sha.ks.map fun k : Nat => .lit (.int .u32 (k : Int))) := by rfl
theorem door_metB (os : Os) (args : Array Value) : laidMetH Tryz.prog LB ((World.doorLaid Tryz.prog 400 os).forCall (fun _ _ => 0) ⟨#[], args, []⟩).memory :=
  laidMetH_of_parts3 (fuel := 8) (laidMet_of_run' 8 (by kernel_rfl) (by kernel_rfl)) (by kernel_rfl) (by kernel_rfl)
theorem tabs_of_laid {W : World} (h : laidMetH Tryz.prog LB W) : Sh.Tab W ∧ Vc.DTab W := by
  rw [MakeChecks.laidMetH_plain _ _ _ (by kernel_rfl)] at h
  obtain ⟨ps, ⟨g0, t0, cs0, f0, p0, q0, hg0, ht0, hv0, hd0, ⟨g1, t1, cs1, f1, p1, q1, hg1, ht1, hv1, hd1, ⟨g2, t2, cs2, f2, p2, q2, hg2, ht2, hv2, hd2, _, _⟩, _⟩, _⟩, _, _⟩ := h
  obtain rfl := Option.some.inj (gBr.symm.trans hg0)
  obtain rfl := Option.some.inj (gFirst.symm.trans hg1)
  obtain rfl := Option.some.inj (gConst.symm.trans hg2)
  obtain rfl := Option.some.inj (tBr.symm.trans ht0)
  obtain rfl := Option.some.inj (tFirst.symm.trans ht1)
  obtain rfl := Option.some.inj (tConst.symm.trans ht2)
  rw [brNs] at hd0
  rw [firstNs] at hd1
  rw [constNs] at hd2
  have c0 := laid_u8 Tryz.underlying95 Tryz.underlying5 (by kernel_rfl) (by kernel_rfl) Lib.deBruijn64tab rfl rfl hd0
  have c1 := laid_u32 Tryz.underlying63 Tryz.underlying23 (by kernel_rfl) (by kernel_rfl) ((List.range 8).map Sha.first.get) rfl (by rw [List.length_map, List.length_range]) hd1
  have c2 := laid_u32 Tryz.underlying64 Tryz.underlying23 (by kernel_rfl) (by kernel_rfl) Sha.ks rfl rfl hd2
  have k0 : ∀ i, i < 64 → W.cell? ⟨1, i, none⟩ = some (.int .u8 (Lib.deBruijn64tab.getD i 0 : Int)) := by
    intro i hi
    have := World.var?_cell hg0 hv0 i
    rw [this]
    have hc := c0 i hi
    simpa using hc
  have k1 : ∀ i, i < 8 → W.cell? ⟨0, i, none⟩ = some (.int .u32 (Sha.first.get i : Int)) := by
    intro i hi
    have := World.var?_cell hg1 hv1 i
    rw [this]
    have hc := c1 i hi
    rw [List.getD_eq_getElem?_getD, List.getElem?_map, List.getElem?_range hi] at hc
    simpa using hc
  have k2 : ∀ i, i < 64 → W.cell? ⟨2, i, none⟩ = some (.int .u32 (Sha.ks.getD i 0 : Int)) := by
    intro i hi
    have := World.var?_cell hg2 hv2 i
    rw [this]
    have hc := c2 i hi
    simpa using hc
  have h2 : 2 < W.heap.size := by simpa using block_lt_of_cell (k2 0 (by omega))
  exact ⟨⟨h2, k1, k2⟩, block_lt_of_cell (k0 0 (by omega)), k0⟩
end Go.Proofs.YtidcnoejihjgjaaGreatDoor.Car
