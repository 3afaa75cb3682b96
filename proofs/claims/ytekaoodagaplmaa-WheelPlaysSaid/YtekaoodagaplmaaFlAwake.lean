/- awake of layer 16. -/
import Derived.Test.YtekaoodagaplmaaFlFree
namespace Go.Proofs.Ytekaoodagaplmaa
open Go.RowKit
def fl0 (m : Int) : Fl := (flNew m).fill 0 3584
def lit1 (w : World) (cs : Array Value) : World := w.alloc (.cells cs 5)
theorem aw_read : ((((fl0 10).prog 0 [15]).1.prog 0 [240, 1]).1).sub 0 3 = [0, 1, 255] := by decide +kernel
end Go.Proofs.Ytekaoodagaplmaa
