/- A region that draws its order: the held condition may grow behind a call; strings of rows in later worlds. -/
import Derived.Test.YtgeodhffgbhmaaaDoorOwn
import Derived.Test.YtgeodhffgbhmaaaDoorRows
import Derived.Deep.RegionHeld3
namespace Go.Proofs.YtgeodhffgbhmaaaDoor
open Go.RowKit
theorem wpAnyH_grow {P : Program} {md : Region.Mode} {ops : Array Oper} {Q : Exit → Act → World → Prop} {S S' : World → Prop} (h : ∀ w, S' w → S w) :
    ∀ (fuel : Nat) (listed : Array Bool) (a : Act) (w : World), wpAnyH P md ops Q S' fuel listed a w → wpAnyH P md ops Q S fuel listed a w
  | 0, _, _, _, hh => hh
  | fuel + 1, _, _, _, hh => ⟨hh.1, fun i hi => wpOp_mono (fun a' w' h' => ⟨h _ h'.1, wpAnyH_grow h fuel _ a' w' h'.2⟩) (hh.2 i hi)⟩
theorem conv_own {w : World} {base n : Nat} {A : Option Addr} {l : List UInt8} (c : Nat) (h : w.ownsRow base 5 1 (.slice A n c) n (bv l)) : ∀ W, Below w.heap.size w W → (convert 30 9 (.slice A n c)).run Tryd.prog W = .ok (.string ⟨l.toArray⟩) W := fun _W hW =>
  run_string_row (Row.of_own (own_below h hW)) c 30 9 5 Tryd.underlying30 Tryd.underlying5 Tryd.underlying9
theorem conv_row {w : World} {B n : Nat} {A : Option Addr} {l : List UInt8} (c : Nat) (h : Row w B A n (bv l)) (hB : B ≤ w.heap.size) : ∀ W, Below w.heap.size w W → (convert 30 9 (.slice A n c)).run Tryd.prog W = .ok (.string ⟨l.toArray⟩) W := fun _W hW =>
  run_string_row (h.below (hW.mono hB)) c 30 9 5 Tryd.underlying30 Tryd.underlying5 Tryd.underlying9
end Go.Proofs.YtgeodhffgbhmaaaDoor
