/- BootBack's walk. -/
import Derived.Test.YtoclckfpbmglfaaDoorBootBM
import Derived.Test.YtoclckfpbmglfaaDoorBootW
import Derived.Test.YtoclckfpbmglfaaDoorBootA
import Derived.Test.YtoclckfpbmglfaaDoorStEq
namespace Go.Proofs.YtoclckfpbmglfaaDoor
open Go.RowKit Sh
/-- between two starts: in box g5 the state after j of them; s as it was -/
structure EB (w : World) (g5 : Nat) (cs : Array Value) (L : LSt) (j : Nat) (W : World) : Prop where
  b : Below w.heap.size w W
  xs : W.heap[w.heap.size]? = some (.cells cs 30 (0, 0))
  so : IsSt W (fun b => b ≠ g5) cs L
  z : ∃ c, W.heap[g5]? = some (.cells c 30 (0, 0)) ∧ IsSt W (fun b => b ≠ g5) c (L.activate.starts j)
end Go.Proofs.YtoclckfpbmglfaaDoor
