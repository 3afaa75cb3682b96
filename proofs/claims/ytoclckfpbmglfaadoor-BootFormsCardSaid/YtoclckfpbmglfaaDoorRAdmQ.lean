/- The reference's Newer, Admit: by contracts. -/
import Derived.Test.YtoclckfpbmglfaaDoorRMayQ
import Derived.Test.YtoclckfpbmglfaaDoorZB
namespace Go.Proofs.YtoclckfpbmglfaaDoor
open Go.RowKit
theorem rmayS {w : World} {P : Nat → Prop} {cs : Array Value} {L : LSt} (h : IsSt w P cs L) : Calls Tryd.prog 29 #[.agg cs] w fun e w' => e = .returned (.bool L.may) ∧ Below w.heap.size w w' := by
  obtain ⟨A0, c0, A1, c1, A, c, rfl, r0, r1, r2⟩ := h
  exact rmay_any _ _ _ _ _ _ _ _ _ _ _ _ _ _ _ _ _ _ _ _ _ _ _ w.heap.size _ _ _ w r0.row r1.row r2.row (Nat.le_refl _)
theorem rmanMayS {w : World} {P : Nat → Prop} {ms : Array Value} {M : LMan} (hm : IsMan w P ms M) : Calls Tryd.prog 38 #[.agg ms] w fun e w' => e = .returned (.bool M.may) ∧ Below w.heap.size w w' := by
  obtain ⟨A, c, rfl, _⟩ := hm
  exact rmanMay_any _ _ _ _ _ _ _ _ w
theorem rmanSameS {w : World} {P Q : Nat → Prop} {ms ns : Array Value} {M K : LMan} (hm : IsMan w P ms M) (hn : IsMan w Q ns K) : Calls Tryd.prog 31 #[.agg ms, .agg ns] w fun e w' => e = .returned (.bool (M.eqb K)) ∧ Below w.heap.size w w' := by
  obtain ⟨A, c, rfl, r⟩ := hm
  obtain ⟨A', c', rfl, r'⟩ := hn
  refine (rmanSame_any _ _ _ _ _ _ _ _ _ _ w.heap.size _ _ _ _ _ _ _ _ w r.row r'.row (Nat.le_refl _)).mono ?_
  rintro e w' ⟨b, rfl, hb, hb1⟩
  exact ⟨by rw [hb.out]; rfl, hb1⟩
end Go.Proofs.YtoclckfpbmglfaaDoor
