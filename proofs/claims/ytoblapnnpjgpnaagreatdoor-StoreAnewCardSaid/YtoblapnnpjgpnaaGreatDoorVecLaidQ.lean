/- What the listed variable (math/bits' table) gives the walks; the world of the witness. -/
import Derived.SevenTiedAt
import Derived.Test.YtoblapnnpjgpnaaGreatDoorZBQ
import Derived.Test.YtoblapnnpjgpnaaGreatDoorLawLaidQ
import Derived.Test.YtoblapnnpjgpnaaGreatDoorTie
import Derived.Test.YtoblapnnpjgpnaaGreatDoorCards
namespace Go.Proofs.YtoblapnnpjgpnaaGreatDoor.Vc
open Go.RowKit Go.ChangeShapes Go.WideShapes Go.ChangeAt Go.WideMaps Go.WideElems
theorem laid_u8 {H : Type} {enc : TypeId × Value → H} {P : Program} {W : World} {base n : Nat} {t e : TypeId} {spare : Nat → Bool} {held : Bool} {fuel : Nat} {cs : List Value} {ds : List (DataW H)} {p : List MemPlace} (ht : P.underlying t = some (.array n e)) (he : P.underlying e = some (.int .u8)) (hc : P.cellsOf e = 1) (hct : P.cellsOf t = n) (ns : List Nat) (hds : ds = ns.map fun k : Nat => .lit (.int .u8 (k : Int)))
    (hn : ns.length = n) (h : DataW.trod enc P W base spare held fuel t cs = some (.agg ds, p)) : ∀ i, i < n → cs[i]? = some (.int .u8 (ns.getD i 0 : Int)) := by
  intro i hi
  obtain ⟨xs, m, _, hx, hl, hxl, hel⟩ := DataW.trod_array ht h
  rw [hct] at hl
  simp only [Prod.mk.injEq, DataW.agg.injEq] at hx
  have hx1 := hx.1
  have h1 := hel i hi
  rw [hc, Nat.mul_one, List.drop_eq_getElem_cons (by omega), List.take_succ_cons, List.take_zero] at h1
  have h2 : xs[i]? = some xs[i] := List.getElem?_eq_getElem (by omega)
  rw [h2] at h1
  obtain ⟨k, e1, e2, _⟩ := DataW.trod_int he h1
  have h3 : (xs.map (·.1))[i]? = some (.lit (.int .u8 k)) := by rw [List.getElem?_map, h2, Option.map_some, e2]
  rw [← hx1, hds, List.getElem?_map, List.getElem?_eq_getElem (by omega), Option.map_some] at h3
  injection h3 with h3
  injection h3 with h3
  injection h3 with _ h3
  rw [List.getElem?_eq_getElem (by omega), List.getD_eq_getElem?_getD, List.getElem?_eq_getElem (by omega), Option.getD_some, h3]
  injection e1 with e1
  rw [e1]
def LB : List (String × DataW Unit) := [("math/bits.deBruijn64tab", Rows.laid_math_bits_deBruijn64tab)]
theorem gBr : Tryz.prog.globalNamed "math/bits.deBruijn64tab" = some 0 := by kernel_rfl
theorem tBr : (Tryz.prog.globals[0]?).map (·.type) = some 187 := by kernel_rfl
theorem brNs : (Rows.laid_math_bits_deBruijn64tab : DataW Unit) = .agg (Lib.deBruijn64tab.map fun k : Nat => .lit (.int .u8 (k : Int))) := by rfl
theorem door_metB (os : Os) (args : Array Value) : laidMetH Tryz.prog LB ((World.doorLaid Tryz.prog 400 os).forCall (fun _ _ => 0) ⟨#[], args, []⟩).memory :=
  laidMetH_of_parts3 (fuel := 8) (laidMet_of_run' 8 (by kernel_rfl) (by kernel_rfl)) (by kernel_rfl) (by kernel_rfl)
theorem dtab_of_laid {W : World} (h : laidMetH Tryz.prog LB W) : DTab W := by
  rw [MakeChecks.laidMetH_plain _ _ _ (by kernel_rfl)] at h
  obtain ⟨ps, ⟨g0, t0, cs0, f0, p0, q0, hg0, ht0, hv0, hd0, _, _⟩, _, _⟩ := h
  obtain rfl := Option.some.inj (gBr.symm.trans hg0)
  obtain rfl := Option.some.inj (tBr.symm.trans ht0)
  rw [brNs] at hd0
  have c0 := laid_u8 Tryz.underlying187 Tryz.underlying5 (by kernel_rfl) (by kernel_rfl) Lib.deBruijn64tab rfl rfl hd0
  have k0 : ∀ i, i < 64 → W.cell? ⟨0, i, none⟩ = some (.int .u8 (Lib.deBruijn64tab.getD i 0 : Int)) := by
    intro i hi
    have := World.var?_cell hg0 hv0 i
    rw [this]
    have hc := c0 i hi
    simpa using hc
  exact ⟨block_lt_of_cell (k0 0 (by omega)), k0⟩
end Go.Proofs.YtoblapnnpjgpnaaGreatDoor.Vc
