/- slices.Equal, slices.Clone at []uint64; vec's Same, Copy: by contract. -/
import Derived.Test.YtgeodhffgbhmaaaDoorVecList
import Derived.Lib.SliceRun
import Derived.Deep.RegionHeld3
namespace Go.Proofs.YtgeodhffgbhmaaaDoor.Vc
open Go.RowKit
open VecM
def QB (B : Bool) (w : World) (e : Ending) (w' : World) : Prop := e = .returned (.bool B) ∧ ∃ q, w' = w.drewN q
theorem drewN_zero (w : World) : w.drewN 0 = w := rfl
theorem equalIn_nil_some {P : Program} (w : World) (d : Nat) (t : TypeId) (a : Addr) (h : P.underlying t = some (.pointer (P.pointee t))) : (Op.equalIn (d + 1) t (.pointer none) (.pointer (some a))).run P w = .ok false w := by
  simp [Op.equalIn, run_underlying h]
theorem eql_nil_some {P : Program} (w : World) (t : TypeId) (a : Addr) (h : P.underlying t = some (.pointer (P.pointee t))) : (binOp .eql t (.pointer none) (.pointer (some a))).run P w = .ok (.bool false) w := by
  have e : (Op.equal t (.pointer none) (.pointer (some a))).run P w = .ok false w := equalIn_nil_some w 9999 t a h
  simp only [binOp]
  simp [e]
theorem quiet_QB {P : Program} {f : FuncId} {args : Array Value} {w : World} {n : Nat} {B : Bool} (h : Calls P f args (w.drewN n) (QB B (w.drewN n))) : Calls P f args (w.drewN n) fun e w'' => e = .returned (.bool B) ∧ ∃ m, w'' = w.drewN m :=
  Calls.quiet_of (h.mono fun _ _ h => h)
end Go.Proofs.YtgeodhffgbhmaaaDoor.Vc
