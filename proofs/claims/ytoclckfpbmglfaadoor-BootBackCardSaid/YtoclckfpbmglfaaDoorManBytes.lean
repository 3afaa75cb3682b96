/- manifest.add, state.add, manifest.number: by contracts. -/
import Derived.Test.YtoclckfpbmglfaaDoorStSame
import Derived.Test.YtoclckfpbmglfaaDoorNum
import Derived.Test.YtoclckfpbmglfaaDoorFour
namespace Go.Proofs.YtoclckfpbmglfaaDoor
open Go.RowKit
def AddOk (base n : Nat) (l : List UInt8) (w : World) (e : Ending) (w' : World) : Prop :=
  ∃ A c, e = .returned (.slice A n c) ∧ Hid (w'.ownsRow base 5 1 (.slice A n c) n (bv l)) ∧ Hid (∀ w0, Below base w0 w → Below base w0 w')
end Go.Proofs.YtoclckfpbmglfaaDoor
