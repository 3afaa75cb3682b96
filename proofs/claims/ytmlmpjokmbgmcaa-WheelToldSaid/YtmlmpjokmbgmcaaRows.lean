/-
  No cell of these rows narrows 'for every input' (looked for: loops, veiled, ifaces, maps, wideKeys, modest, calm, conditions, laid).
  DERIVED. THE GIVEN ROWS OF THIS SEAT. 11 by the template 'for every input the law returns true; each argument reads behind the call as it read before'; 0 by the template 'total and deterministic' (their statements: YtmlmpjokmbgmcaaTotals.lean).
  GIVEN WITH THE SEED: the statements are not yours to turn. If you find one false, say at which input.
  Laid BY PROGRAM, IN A SANDBOX (cutbox-rows.mjs): the forced cells as the released guide's own fill.sh prints them over the translation 14f8248b8b648ec9… (all of the seat's roots in one cut). By AI agents, Wed Nov 11 2026. No macro, syntax, notation, axiom, sorry.
-/
import Derived.Test.YtmlmpjokmbgmcaaChecked
import GoSem.Claim
import GoSem.ClaimJoined
import GoSem.ClaimMapViews
import Derived.JoinedTies
import Derived.KernelRfl
namespace Go.Proofs.Ytmlmpjokmbgmcaa
/- THE CELL 'sum', in the pinned program and in every row, IS THE sha256 OF THE DUMP (.gsa) THAT YtmlmpjokmbgmcaaProg.lean LOADS. Nothing in Lean hashes anything: it is a label: what it is worth is what the hold of that sum in a sandbox is worth. -/
noncomputable def Try.pinned : Pinned := { name := "ytmlmpjokmbgmcaa", sum := "14f8248b8b648ec984d573c5eaba89e56df498dab9f80f02c823a0bbf9725a96", checked := Try.checked }
namespace Rows
def none {H : Type} : Left H := { results := [], args := [] }

/-- 'downpourlaw17.CellPlays': WHATEVER THE INPUT: true; the input reads as it did. -/
def cellPlaysSpec : ChangeSpec := { name := "cellPlays", fn := fun _ => fun
  | [d1, d2] => { results := [.lit (.bool true)], args := [d1, d2] }
  | _ => none }
def cellPlaysRow : OpenClaim := { program := "ytmlmpjokmbgmcaa", sum := "14f8248b8b648ec984d573c5eaba89e56df498dab9f80f02c823a0bbf9725a96", func := "downpour/downpourlaw17.CellPlays", spec := "cellPlays", inPlace := ["sync/atomic.AddInt64"], apart := false }
def CellPlaysSaid : Prop := cellPlaysRow.holds Try.pinned (OpenSpec.ofChange cellPlaysSpec)

/-- ITS FALSE NEIGHBOUR: 'it returns false'. Refute it at one input. -/
def cellPlaysWrong : ChangeSpec := { name := "cellPlays", fn := fun _ => fun
  | [d1, d2] => { results := [.lit (.bool false)], args := [d1, d2] }
  | _ => none }
def CellPlaysWrongFalsely : Prop := cellPlaysRow.holds Try.pinned (OpenSpec.ofChange cellPlaysWrong)

/-- 'downpourlaw17.CellWhole': WHATEVER THE INPUT: true; the input reads as it did. -/
def cellWholeSpec : ChangeSpec := { name := "cellWhole", fn := fun _ => fun
  | [d] => { results := [.lit (.bool true)], args := [d] }
  | _ => none }
def cellWholeRow : OpenClaim := { program := "ytmlmpjokmbgmcaa", sum := "14f8248b8b648ec984d573c5eaba89e56df498dab9f80f02c823a0bbf9725a96", func := "downpour/downpourlaw17.CellWhole", spec := "cellWhole", inPlace := ["sync/atomic.AddInt64"], apart := false }
def CellWholeSaid : Prop := cellWholeRow.holds Try.pinned (OpenSpec.ofChange cellWholeSpec)

/-- ITS FALSE NEIGHBOUR: 'it returns false'. Refute it at one input. -/
def cellWholeWrong : ChangeSpec := { name := "cellWhole", fn := fun _ => fun
  | [d] => { results := [.lit (.bool false)], args := [d] }
  | _ => none }
def CellWholeWrongFalsely : Prop := cellWholeRow.holds Try.pinned (OpenSpec.ofChange cellWholeWrong)

/-- 'downpourlaw17.CellTurns': WHATEVER THE INPUT: true; the input reads as it did. -/
def cellTurnsSpec : ChangeSpec := { name := "cellTurns", fn := fun _ => fun
  | [d1, d2] => { results := [.lit (.bool true)], args := [d1, d2] }
  | _ => none }
def cellTurnsRow : OpenClaim := { program := "ytmlmpjokmbgmcaa", sum := "14f8248b8b648ec984d573c5eaba89e56df498dab9f80f02c823a0bbf9725a96", func := "downpour/downpourlaw17.CellTurns", spec := "cellTurns", inPlace := ["sync/atomic.AddInt64", "sync/atomic.LoadInt64"], apart := false }
def CellTurnsSaid : Prop := cellTurnsRow.holds Try.pinned (OpenSpec.ofChange cellTurnsSpec)

/-- ITS FALSE NEIGHBOUR: 'it returns false'. Refute it at one input. -/
def cellTurnsWrong : ChangeSpec := { name := "cellTurns", fn := fun _ => fun
  | [d1, d2] => { results := [.lit (.bool false)], args := [d1, d2] }
  | _ => none }
def CellTurnsWrongFalsely : Prop := cellTurnsRow.holds Try.pinned (OpenSpec.ofChange cellTurnsWrong)

/-- 'downpourlaw17.CellSpoilt': WHATEVER THE INPUT: true; the input reads as it did. -/
def cellSpoiltSpec : ChangeSpec := { name := "cellSpoilt", fn := fun _ => fun
  | [d1, d2, d3] => { results := [.lit (.bool true)], args := [d1, d2, d3] }
  | _ => none }
def cellSpoiltRow : OpenClaim := { program := "ytmlmpjokmbgmcaa", sum := "14f8248b8b648ec984d573c5eaba89e56df498dab9f80f02c823a0bbf9725a96", func := "downpour/downpourlaw17.CellSpoilt", spec := "cellSpoilt", inPlace := ["sync/atomic.AddInt64"], apart := false }
def CellSpoiltSaid : Prop := cellSpoiltRow.holds Try.pinned (OpenSpec.ofChange cellSpoiltSpec)

/-- ITS FALSE NEIGHBOUR: 'it returns false'. Refute it at one input. -/
def cellSpoiltWrong : ChangeSpec := { name := "cellSpoilt", fn := fun _ => fun
  | [d1, d2, d3] => { results := [.lit (.bool false)], args := [d1, d2, d3] }
  | _ => none }
def CellSpoiltWrongFalsely : Prop := cellSpoiltRow.holds Try.pinned (OpenSpec.ofChange cellSpoiltWrong)

/-- 'downpourlaw17.CellSame': WHATEVER THE INPUT: true; the input reads as it did. -/
def cellSameSpec : ChangeSpec := { name := "cellSame", fn := fun _ => fun
  | [d] => { results := [.lit (.bool true)], args := [d] }
  | _ => none }
def cellSameRow : OpenClaim := { program := "ytmlmpjokmbgmcaa", sum := "14f8248b8b648ec984d573c5eaba89e56df498dab9f80f02c823a0bbf9725a96", func := "downpour/downpourlaw17.CellSame", spec := "cellSame", inPlace := ["sync/atomic.AddInt64"], apart := false }
def CellSameSaid : Prop := cellSameRow.holds Try.pinned (OpenSpec.ofChange cellSameSpec)

/-- ITS FALSE NEIGHBOUR: 'it returns false'. Refute it at one input. -/
def cellSameWrong : ChangeSpec := { name := "cellSame", fn := fun _ => fun
  | [d] => { results := [.lit (.bool false)], args := [d] }
  | _ => none }
def CellSameWrongFalsely : Prop := cellSameRow.holds Try.pinned (OpenSpec.ofChange cellSameWrong)

/-- 'downpourlaw18.WheelPlays': WHATEVER THE INPUT: true; the input reads as it did. -/
def wheelPlaysSpec : ChangeSpec := { name := "wheelPlays", fn := fun _ => fun
  | [d1, d2, d3, d4] => { results := [.lit (.bool true)], args := [d1, d2, d3, d4] }
  | _ => none }
def wheelPlaysRow : OpenClaim := { program := "ytmlmpjokmbgmcaa", sum := "14f8248b8b648ec984d573c5eaba89e56df498dab9f80f02c823a0bbf9725a96", func := "downpour/downpourlaw18.WheelPlays", spec := "wheelPlays", inPlace := ["sync/atomic.AddInt64"], apart := false }
def WheelPlaysSaid : Prop := wheelPlaysRow.holds Try.pinned (OpenSpec.ofChange wheelPlaysSpec)

/-- ITS FALSE NEIGHBOUR: 'it returns false'. Refute it at one input. -/
def wheelPlaysWrong : ChangeSpec := { name := "wheelPlays", fn := fun _ => fun
  | [d1, d2, d3, d4] => { results := [.lit (.bool false)], args := [d1, d2, d3, d4] }
  | _ => none }
def WheelPlaysWrongFalsely : Prop := wheelPlaysRow.holds Try.pinned (OpenSpec.ofChange wheelPlaysWrong)

/-- 'downpourlaw18.WheelNil': WHATEVER THE INPUT: true; the input reads as it did. -/
def wheelNilSpec : ChangeSpec := { name := "wheelNil", fn := fun _ => fun
  | [d] => { results := [.lit (.bool true)], args := [d] }
  | _ => none }
def wheelNilRow : OpenClaim := { program := "ytmlmpjokmbgmcaa", sum := "14f8248b8b648ec984d573c5eaba89e56df498dab9f80f02c823a0bbf9725a96", func := "downpour/downpourlaw18.WheelNil", spec := "wheelNil", inPlace := ["sync/atomic.AddInt64"], apart := false }
def WheelNilSaid : Prop := wheelNilRow.holds Try.pinned (OpenSpec.ofChange wheelNilSpec)

/-- ITS FALSE NEIGHBOUR: 'it returns false'. Refute it at one input. -/
def wheelNilWrong : ChangeSpec := { name := "wheelNil", fn := fun _ => fun
  | [d] => { results := [.lit (.bool false)], args := [d] }
  | _ => none }
def WheelNilWrongFalsely : Prop := wheelNilRow.holds Try.pinned (OpenSpec.ofChange wheelNilWrong)

/-- 'downpourlaw18.WheelKept': WHATEVER THE INPUT: true; the input reads as it did. -/
def wheelKeptSpec : ChangeSpec := { name := "wheelKept", fn := fun _ => fun
  | [d1, d2] => { results := [.lit (.bool true)], args := [d1, d2] }
  | _ => none }
def wheelKeptRow : OpenClaim := { program := "ytmlmpjokmbgmcaa", sum := "14f8248b8b648ec984d573c5eaba89e56df498dab9f80f02c823a0bbf9725a96", func := "downpour/downpourlaw18.WheelKept", spec := "wheelKept", inPlace := ["sync/atomic.AddInt64"], apart := false }
def WheelKeptSaid : Prop := wheelKeptRow.holds Try.pinned (OpenSpec.ofChange wheelKeptSpec)

/-- ITS FALSE NEIGHBOUR: 'it returns false'. Refute it at one input. -/
def wheelKeptWrong : ChangeSpec := { name := "wheelKept", fn := fun _ => fun
  | [d1, d2] => { results := [.lit (.bool false)], args := [d1, d2] }
  | _ => none }
def WheelKeptWrongFalsely : Prop := wheelKeptRow.holds Try.pinned (OpenSpec.ofChange wheelKeptWrong)

/-- 'downpourlaw18.WheelRoom': WHATEVER THE INPUT: true; the input reads as it did. -/
def wheelRoomSpec : ChangeSpec := { name := "wheelRoom", fn := fun _ => fun
  | [d1, d2] => { results := [.lit (.bool true)], args := [d1, d2] }
  | _ => none }
def wheelRoomRow : OpenClaim := { program := "ytmlmpjokmbgmcaa", sum := "14f8248b8b648ec984d573c5eaba89e56df498dab9f80f02c823a0bbf9725a96", func := "downpour/downpourlaw18.WheelRoom", spec := "wheelRoom", inPlace := ["sync/atomic.AddInt64"], apart := false }
def WheelRoomSaid : Prop := wheelRoomRow.holds Try.pinned (OpenSpec.ofChange wheelRoomSpec)

/-- ITS FALSE NEIGHBOUR: 'it returns false'. Refute it at one input. -/
def wheelRoomWrong : ChangeSpec := { name := "wheelRoom", fn := fun _ => fun
  | [d1, d2] => { results := [.lit (.bool false)], args := [d1, d2] }
  | _ => none }
def WheelRoomWrongFalsely : Prop := wheelRoomRow.holds Try.pinned (OpenSpec.ofChange wheelRoomWrong)

/-- 'downpourlaw18.WheelOther': WHATEVER THE INPUT: true; the input reads as it did. -/
def wheelOtherSpec : ChangeSpec := { name := "wheelOther", fn := fun _ => fun
  | [d1, d2, d3, d4] => { results := [.lit (.bool true)], args := [d1, d2, d3, d4] }
  | _ => none }
def wheelOtherRow : OpenClaim := { program := "ytmlmpjokmbgmcaa", sum := "14f8248b8b648ec984d573c5eaba89e56df498dab9f80f02c823a0bbf9725a96", func := "downpour/downpourlaw18.WheelOther", spec := "wheelOther", inPlace := ["sync/atomic.AddInt64"], apart := false }
def WheelOtherSaid : Prop := wheelOtherRow.holds Try.pinned (OpenSpec.ofChange wheelOtherSpec)

/-- ITS FALSE NEIGHBOUR: 'it returns false'. Refute it at one input. -/
def wheelOtherWrong : ChangeSpec := { name := "wheelOther", fn := fun _ => fun
  | [d1, d2, d3, d4] => { results := [.lit (.bool false)], args := [d1, d2, d3, d4] }
  | _ => none }
def WheelOtherWrongFalsely : Prop := wheelOtherRow.holds Try.pinned (OpenSpec.ofChange wheelOtherWrong)

/-- 'downpourlaw18.WheelTold': WHATEVER THE INPUT: true; the input reads as it did. -/
def wheelToldSpec : ChangeSpec := { name := "wheelTold", fn := fun _ => fun
  | [d] => { results := [.lit (.bool true)], args := [d] }
  | _ => none }
def wheelToldRow : OpenClaim := { program := "ytmlmpjokmbgmcaa", sum := "14f8248b8b648ec984d573c5eaba89e56df498dab9f80f02c823a0bbf9725a96", func := "downpour/downpourlaw18.WheelTold", spec := "wheelTold", inPlace := ["sync/atomic.AddInt64", "sync/atomic.LoadInt64"], apart := false }
def WheelToldSaid : Prop := wheelToldRow.holds Try.pinned (OpenSpec.ofChange wheelToldSpec)

/-- ITS FALSE NEIGHBOUR: 'it returns false'. Refute it at one input. -/
def wheelToldWrong : ChangeSpec := { name := "wheelTold", fn := fun _ => fun
  | [d] => { results := [.lit (.bool false)], args := [d] }
  | _ => none }
def WheelToldWrongFalsely : Prop := wheelToldRow.holds Try.pinned (OpenSpec.ofChange wheelToldWrong)

/- THE SECOND FORM. 'bulk': how many values and letters a reading holds, each counted each time it is reached (what is shared counts as often as it is met; a slice's spare places count too). A statement '..UptoSaid' is the law's where the arguments, and the package variables that the reading takes, are together of bulk at most 1048576: NARROWER than '..Said'. Prove '..Said' where nothing that the law and all that it calls make is longer than what came in: it says more and counts as full. Else prove '..UptoSaid'. A law counts once. -/
mutual
def uptoBulk {H : Type} : DataW H → Nat
  | .lit (.string bytes) => bytes.length + 1
  | .lit _ => 1
  | .nil => 1
  | .ptr d => uptoBulk d + 1
  | .slice elems spare => uptoBulkAll elems + uptoBulkAll spare + 1
  | .agg parts => uptoBulkAll parts + 1
  | .iface _ d => uptoBulk d + 1
  | .map entries => uptoBulkEntries entries + 1
  | .held _ => 1
def uptoBulkAll {H : Type} : List (DataW H) → Nat
  | [] => 0
  | d :: r => uptoBulk d + uptoBulkAll r
def uptoBulkEntries {H : Type} : List (Lit × DataW H) → Nat
  | [] => 0
  | x :: r => uptoBulkEntry x + uptoBulkEntries r
def uptoBulkEntry {H : Type} : Lit × DataW H → Nat
  | (.string bytes, d) => bytes.length + uptoBulk d + 1
  | (_, d) => uptoBulk d + 1
 end
def uptoSmall : (H : Type) → List (DataW H) → Bool := fun _ ds => decide (uptoBulkAll ds ≤ 1048576)
def OpenSpec.upto (s : _root_.Go.ChangeSpec) : _root_.Go.OpenSpec := { _root_.Go.OpenSpec.ofChange s with cond := some uptoSmall }

/-- 'downpourlaw17.CellPlays', WHERE WHAT IT READS IS OF BULK AT MOST 1048576: true; the input reads as it did. -/
def cellPlaysUptoRow : OpenClaim := { program := "ytmlmpjokmbgmcaa", sum := "14f8248b8b648ec984d573c5eaba89e56df498dab9f80f02c823a0bbf9725a96", func := "downpour/downpourlaw17.CellPlays", spec := "cellPlays", inPlace := ["sync/atomic.AddInt64"], apart := false, narrowed := true }
def CellPlaysUptoSaid : Prop := cellPlaysUptoRow.holds Try.pinned (OpenSpec.upto cellPlaysSpec)

/-- 'downpourlaw17.CellWhole', WHERE WHAT IT READS IS OF BULK AT MOST 1048576: true; the input reads as it did. -/
def cellWholeUptoRow : OpenClaim := { program := "ytmlmpjokmbgmcaa", sum := "14f8248b8b648ec984d573c5eaba89e56df498dab9f80f02c823a0bbf9725a96", func := "downpour/downpourlaw17.CellWhole", spec := "cellWhole", inPlace := ["sync/atomic.AddInt64"], apart := false, narrowed := true }
def CellWholeUptoSaid : Prop := cellWholeUptoRow.holds Try.pinned (OpenSpec.upto cellWholeSpec)

/-- 'downpourlaw17.CellTurns', WHERE WHAT IT READS IS OF BULK AT MOST 1048576: true; the input reads as it did. -/
def cellTurnsUptoRow : OpenClaim := { program := "ytmlmpjokmbgmcaa", sum := "14f8248b8b648ec984d573c5eaba89e56df498dab9f80f02c823a0bbf9725a96", func := "downpour/downpourlaw17.CellTurns", spec := "cellTurns", inPlace := ["sync/atomic.AddInt64", "sync/atomic.LoadInt64"], apart := false, narrowed := true }
def CellTurnsUptoSaid : Prop := cellTurnsUptoRow.holds Try.pinned (OpenSpec.upto cellTurnsSpec)

/-- 'downpourlaw17.CellSpoilt', WHERE WHAT IT READS IS OF BULK AT MOST 1048576: true; the input reads as it did. -/
def cellSpoiltUptoRow : OpenClaim := { program := "ytmlmpjokmbgmcaa", sum := "14f8248b8b648ec984d573c5eaba89e56df498dab9f80f02c823a0bbf9725a96", func := "downpour/downpourlaw17.CellSpoilt", spec := "cellSpoilt", inPlace := ["sync/atomic.AddInt64"], apart := false, narrowed := true }
def CellSpoiltUptoSaid : Prop := cellSpoiltUptoRow.holds Try.pinned (OpenSpec.upto cellSpoiltSpec)

/-- 'downpourlaw17.CellSame', WHERE WHAT IT READS IS OF BULK AT MOST 1048576: true; the input reads as it did. -/
def cellSameUptoRow : OpenClaim := { program := "ytmlmpjokmbgmcaa", sum := "14f8248b8b648ec984d573c5eaba89e56df498dab9f80f02c823a0bbf9725a96", func := "downpour/downpourlaw17.CellSame", spec := "cellSame", inPlace := ["sync/atomic.AddInt64"], apart := false, narrowed := true }
def CellSameUptoSaid : Prop := cellSameUptoRow.holds Try.pinned (OpenSpec.upto cellSameSpec)

/-- 'downpourlaw18.WheelPlays', WHERE WHAT IT READS IS OF BULK AT MOST 1048576: true; the input reads as it did. -/
def wheelPlaysUptoRow : OpenClaim := { program := "ytmlmpjokmbgmcaa", sum := "14f8248b8b648ec984d573c5eaba89e56df498dab9f80f02c823a0bbf9725a96", func := "downpour/downpourlaw18.WheelPlays", spec := "wheelPlays", inPlace := ["sync/atomic.AddInt64"], apart := false, narrowed := true }
def WheelPlaysUptoSaid : Prop := wheelPlaysUptoRow.holds Try.pinned (OpenSpec.upto wheelPlaysSpec)

/-- 'downpourlaw18.WheelNil', WHERE WHAT IT READS IS OF BULK AT MOST 1048576: true; the input reads as it did. -/
def wheelNilUptoRow : OpenClaim := { program := "ytmlmpjokmbgmcaa", sum := "14f8248b8b648ec984d573c5eaba89e56df498dab9f80f02c823a0bbf9725a96", func := "downpour/downpourlaw18.WheelNil", spec := "wheelNil", inPlace := ["sync/atomic.AddInt64"], apart := false, narrowed := true }
def WheelNilUptoSaid : Prop := wheelNilUptoRow.holds Try.pinned (OpenSpec.upto wheelNilSpec)

/-- 'downpourlaw18.WheelKept', WHERE WHAT IT READS IS OF BULK AT MOST 1048576: true; the input reads as it did. -/
def wheelKeptUptoRow : OpenClaim := { program := "ytmlmpjokmbgmcaa", sum := "14f8248b8b648ec984d573c5eaba89e56df498dab9f80f02c823a0bbf9725a96", func := "downpour/downpourlaw18.WheelKept", spec := "wheelKept", inPlace := ["sync/atomic.AddInt64"], apart := false, narrowed := true }
def WheelKeptUptoSaid : Prop := wheelKeptUptoRow.holds Try.pinned (OpenSpec.upto wheelKeptSpec)

/-- 'downpourlaw18.WheelRoom', WHERE WHAT IT READS IS OF BULK AT MOST 1048576: true; the input reads as it did. -/
def wheelRoomUptoRow : OpenClaim := { program := "ytmlmpjokmbgmcaa", sum := "14f8248b8b648ec984d573c5eaba89e56df498dab9f80f02c823a0bbf9725a96", func := "downpour/downpourlaw18.WheelRoom", spec := "wheelRoom", inPlace := ["sync/atomic.AddInt64"], apart := false, narrowed := true }
def WheelRoomUptoSaid : Prop := wheelRoomUptoRow.holds Try.pinned (OpenSpec.upto wheelRoomSpec)

/-- 'downpourlaw18.WheelOther', WHERE WHAT IT READS IS OF BULK AT MOST 1048576: true; the input reads as it did. -/
def wheelOtherUptoRow : OpenClaim := { program := "ytmlmpjokmbgmcaa", sum := "14f8248b8b648ec984d573c5eaba89e56df498dab9f80f02c823a0bbf9725a96", func := "downpour/downpourlaw18.WheelOther", spec := "wheelOther", inPlace := ["sync/atomic.AddInt64"], apart := false, narrowed := true }
def WheelOtherUptoSaid : Prop := wheelOtherUptoRow.holds Try.pinned (OpenSpec.upto wheelOtherSpec)

/-- 'downpourlaw18.WheelTold', WHERE WHAT IT READS IS OF BULK AT MOST 1048576: true; the input reads as it did. -/
def wheelToldUptoRow : OpenClaim := { program := "ytmlmpjokmbgmcaa", sum := "14f8248b8b648ec984d573c5eaba89e56df498dab9f80f02c823a0bbf9725a96", func := "downpour/downpourlaw18.WheelTold", spec := "wheelTold", inPlace := ["sync/atomic.AddInt64", "sync/atomic.LoadInt64"], apart := false, narrowed := true }
def WheelToldUptoSaid : Prop := wheelToldUptoRow.holds Try.pinned (OpenSpec.upto wheelToldSpec)

end Rows
end Go.Proofs.Ytmlmpjokmbgmcaa
