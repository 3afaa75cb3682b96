/- law19.First: by contract. -/
import Derived.Test.YtoclckfpbmglfaaDoorSess
namespace Go.Proofs.YtoclckfpbmglfaaDoor
open Go.RowKit
def FirstOk (w : World) (e : Ending) (w' : World) : Prop :=
  ∃ A c, e = .returned (.agg #[.int .i64 0, .int .i64 0, .int .u32 0, .int .u32 0, .int .u32 1, .int .i64 3, .slice A 32 c, .int .u32 0, .int .i64 0, .slice none 0 0, .bool false, .int .u32 0, .int .u32 0, .int .i64 0, .int .i64 0, .int .i64 0, .slice none 0 0]) ∧ Hid (RowF w' w.heap.size A 32 (bv n32)) ∧ Hid (Below w.heap.size w w')
end Go.Proofs.YtoclckfpbmglfaaDoor
