/-
  No cell of these rows narrows 'for every input' (looked for: loops, veiled, ifaces, maps, wideKeys, modest, calm, conditions, laid).
  DERIVED. THE GIVEN ROWS OF THIS SEAT. 10 by the template 'for every input the law returns true; each argument reads behind the call as it read before'; 0 by the template 'total and deterministic' (their statements: YtfgcolplhadcjaaTotals.lean).
  GIVEN WITH THE SEED: the statements are not yours to turn. If you find one false, say at which input.
  Laid BY PROGRAM, IN A SANDBOX (cutbox-rows.mjs): the forced cells as the released guide's own fill.sh prints them over the translation b248ee2fb454e614… (all of the seat's roots in one cut). By AI agents, Wed Nov 11 2026. No macro, syntax, notation, axiom, sorry.
-/
import Derived.Test.YtfgcolplhadcjaaChecked
import GoSem.Claim
import GoSem.ClaimJoined
import GoSem.ClaimMapViews
import Derived.JoinedTies
import Derived.KernelRfl
namespace Go.Proofs.Ytfgcolplhadcjaa
/- THE CELL 'sum', in the pinned program and in every row, IS THE sha256 OF THE DUMP (.gsa) THAT YtfgcolplhadcjaaProg.lean LOADS. Nothing in Lean hashes anything: it is a label: what it is worth is what the hold of that sum in a sandbox is worth. -/
noncomputable def Try.pinned : Pinned := { name := "ytfgcolplhadcjaa", sum := "b248ee2fb454e61456d941c5ce679e980951510b86e652c5d3662009a72a7f62", checked := Try.checked }
namespace Rows
def none {H : Type} : Left H := { results := [], args := [] }

/-- 'downpourlaw4.RandNil': WHATEVER THE INPUT: true; the input reads as it did. -/
def randNilSpec : ChangeSpec := { name := "randNil", fn := fun _ => fun
  | [d] => { results := [.lit (.bool true)], args := [d] }
  | _ => none }
def randNilRow : OpenClaim := { program := "ytfgcolplhadcjaa", sum := "b248ee2fb454e61456d941c5ce679e980951510b86e652c5d3662009a72a7f62", func := "downpour/downpourlaw4.RandNil", spec := "randNil", inPlace := ["sync/atomic.LoadUint32", "sync/atomic.StoreUint32"], recurses := true, apart := false }
def RandNilSaid : Prop := randNilRow.holds Try.pinned (OpenSpec.ofChange randNilSpec)

/-- ITS FALSE NEIGHBOUR: 'it returns false'. Refute it at one input. -/
def randNilWrong : ChangeSpec := { name := "randNil", fn := fun _ => fun
  | [d] => { results := [.lit (.bool false)], args := [d] }
  | _ => none }
def RandNilWrongFalsely : Prop := randNilRow.holds Try.pinned (OpenSpec.ofChange randNilWrong)

/-- 'downpourlaw4.RandSome': WHATEVER THE INPUT: true; the input reads as it did. -/
def randSomeSpec : ChangeSpec := { name := "randSome", fn := fun _ => fun
  | [d1, d2, d3, d4] => { results := [.lit (.bool true)], args := [d1, d2, d3, d4] }
  | _ => none }
def randSomeRow : OpenClaim := { program := "ytfgcolplhadcjaa", sum := "b248ee2fb454e61456d941c5ce679e980951510b86e652c5d3662009a72a7f62", func := "downpour/downpourlaw4.RandSome", spec := "randSome", inPlace := ["sync/atomic.StoreUint32", "sync/atomic.LoadUint32"], recurses := true, apart := false }
def RandSomeSaid : Prop := randSomeRow.holds Try.pinned (OpenSpec.ofChange randSomeSpec)

/-- ITS FALSE NEIGHBOUR: 'it returns false'. Refute it at one input. -/
def randSomeWrong : ChangeSpec := { name := "randSome", fn := fun _ => fun
  | [d1, d2, d3, d4] => { results := [.lit (.bool false)], args := [d1, d2, d3, d4] }
  | _ => none }
def RandSomeWrongFalsely : Prop := randSomeRow.holds Try.pinned (OpenSpec.ofChange randSomeWrong)

/-- 'downpourlaw4.RandBelow': WHATEVER THE INPUT: true; the input reads as it did. -/
def randBelowSpec : ChangeSpec := { name := "randBelow", fn := fun _ => fun
  | [d1, d2, d3] => { results := [.lit (.bool true)], args := [d1, d2, d3] }
  | _ => none }
def randBelowRow : OpenClaim := { program := "ytfgcolplhadcjaa", sum := "b248ee2fb454e61456d941c5ce679e980951510b86e652c5d3662009a72a7f62", func := "downpour/downpourlaw4.RandBelow", spec := "randBelow", inPlace := ["sync/atomic.StoreUint32", "sync/atomic.LoadUint32"], recurses := true, apart := false }
def RandBelowSaid : Prop := randBelowRow.holds Try.pinned (OpenSpec.ofChange randBelowSpec)

/-- ITS FALSE NEIGHBOUR: 'it returns false'. Refute it at one input. -/
def randBelowWrong : ChangeSpec := { name := "randBelow", fn := fun _ => fun
  | [d1, d2, d3] => { results := [.lit (.bool false)], args := [d1, d2, d3] }
  | _ => none }
def RandBelowWrongFalsely : Prop := randBelowRow.holds Try.pinned (OpenSpec.ofChange randBelowWrong)

/-- 'downpourlaw4.RandRows': WHATEVER THE INPUT: true; the input reads as it did. -/
def randRowsSpec : ChangeSpec := { name := "randRows", fn := fun _ => fun
  | [d1, d2, d3, d4] => { results := [.lit (.bool true)], args := [d1, d2, d3, d4] }
  | _ => none }
def randRowsRow : OpenClaim := { program := "ytfgcolplhadcjaa", sum := "b248ee2fb454e61456d941c5ce679e980951510b86e652c5d3662009a72a7f62", func := "downpour/downpourlaw4.RandRows", spec := "randRows", inPlace := ["sync/atomic.StoreUint32", "sync/atomic.LoadUint32"], recurses := true, apart := false }
def RandRowsSaid : Prop := randRowsRow.holds Try.pinned (OpenSpec.ofChange randRowsSpec)

/-- ITS FALSE NEIGHBOUR: 'it returns false'. Refute it at one input. -/
def randRowsWrong : ChangeSpec := { name := "randRows", fn := fun _ => fun
  | [d1, d2, d3, d4] => { results := [.lit (.bool false)], args := [d1, d2, d3, d4] }
  | _ => none }
def RandRowsWrongFalsely : Prop := randRowsRow.holds Try.pinned (OpenSpec.ofChange randRowsWrong)

/-- 'downpourlaw4.RandAll': WHATEVER THE INPUT: true; the input reads as it did. -/
def randAllSpec : ChangeSpec := { name := "randAll", fn := fun _ => fun
  | [d1, d2, d3] => { results := [.lit (.bool true)], args := [d1, d2, d3] }
  | _ => none }
def randAllRow : OpenClaim := { program := "ytfgcolplhadcjaa", sum := "b248ee2fb454e61456d941c5ce679e980951510b86e652c5d3662009a72a7f62", func := "downpour/downpourlaw4.RandAll", spec := "randAll", inPlace := ["sync/atomic.StoreUint32", "sync/atomic.LoadUint32"], recurses := true, apart := false }
def RandAllSaid : Prop := randAllRow.holds Try.pinned (OpenSpec.ofChange randAllSpec)

/-- ITS FALSE NEIGHBOUR: 'it returns false'. Refute it at one input. -/
def randAllWrong : ChangeSpec := { name := "randAll", fn := fun _ => fun
  | [d1, d2, d3] => { results := [.lit (.bool false)], args := [d1, d2, d3] }
  | _ => none }
def RandAllWrongFalsely : Prop := randAllRow.holds Try.pinned (OpenSpec.ofChange randAllWrong)

/-- 'downpourlaw7.SolitonNil': WHATEVER THE INPUT: true; the input reads as it did. -/
def solitonNilSpec : ChangeSpec := { name := "solitonNil", fn := fun _ => fun
  | [d] => { results := [.lit (.bool true)], args := [d] }
  | _ => none }
def solitonNilRow : OpenClaim := { program := "ytfgcolplhadcjaa", sum := "b248ee2fb454e61456d941c5ce679e980951510b86e652c5d3662009a72a7f62", func := "downpour/downpourlaw7.SolitonNil", spec := "solitonNil", inPlace := ["sync/atomic.LoadUint32", "(*internal/sync.Mutex).Lock", "internal/race.Disable", "sync/atomic.CompareAndSwapInt32", "internal/race.Enable", "internal/race.Acquire", "(*internal/sync.Mutex).lockSlow", "internal/sync.runtime_canSpin", "internal/sync.runtime_doSpin", "internal/sync.throw", "internal/sync.runtime_nanotime", "internal/sync.runtime_SemacquireMutex", "sync/atomic.AddInt32", "(*internal/sync.Mutex).Unlock", "internal/race.ReleaseMerge", "(*internal/sync.Mutex).unlockSlow", "internal/sync.fatal", "internal/sync.runtime_Semrelease", "sync/atomic.StoreUint32"], unfollowed := true, recurses := true, apart := false }
def SolitonNilSaid : Prop := solitonNilRow.holds Try.pinned (OpenSpec.ofChange solitonNilSpec)

/-- ITS FALSE NEIGHBOUR: 'it returns false'. Refute it at one input. -/
def solitonNilWrong : ChangeSpec := { name := "solitonNil", fn := fun _ => fun
  | [d] => { results := [.lit (.bool false)], args := [d] }
  | _ => none }
def SolitonNilWrongFalsely : Prop := solitonNilRow.holds Try.pinned (OpenSpec.ofChange solitonNilWrong)

/-- 'downpourlaw7.SolitonRises': WHATEVER THE INPUT: true; the input reads as it did. -/
def solitonRisesSpec : ChangeSpec := { name := "solitonRises", fn := fun _ => fun
  | [d1, d2, d3] => { results := [.lit (.bool true)], args := [d1, d2, d3] }
  | _ => none }
def solitonRisesRow : OpenClaim := { program := "ytfgcolplhadcjaa", sum := "b248ee2fb454e61456d941c5ce679e980951510b86e652c5d3662009a72a7f62", func := "downpour/downpourlaw7.SolitonRises", spec := "solitonRises", inPlace := ["sync/atomic.LoadUint32", "(*internal/sync.Mutex).Lock", "internal/race.Disable", "sync/atomic.CompareAndSwapInt32", "internal/race.Enable", "internal/race.Acquire", "(*internal/sync.Mutex).lockSlow", "internal/sync.runtime_canSpin", "internal/sync.runtime_doSpin", "internal/sync.throw", "internal/sync.runtime_nanotime", "internal/sync.runtime_SemacquireMutex", "sync/atomic.AddInt32", "(*internal/sync.Mutex).Unlock", "internal/race.ReleaseMerge", "(*internal/sync.Mutex).unlockSlow", "internal/sync.fatal", "internal/sync.runtime_Semrelease", "sync/atomic.StoreUint32"], unfollowed := true, recurses := true, apart := false }
def SolitonRisesSaid : Prop := solitonRisesRow.holds Try.pinned (OpenSpec.ofChange solitonRisesSpec)

/-- ITS FALSE NEIGHBOUR: 'it returns false'. Refute it at one input. -/
def solitonRisesWrong : ChangeSpec := { name := "solitonRises", fn := fun _ => fun
  | [d1, d2, d3] => { results := [.lit (.bool false)], args := [d1, d2, d3] }
  | _ => none }
def SolitonRisesWrongFalsely : Prop := solitonRisesRow.holds Try.pinned (OpenSpec.ofChange solitonRisesWrong)

/-- 'downpourlaw7.SolitonShares': WHATEVER THE INPUT: true; the input reads as it did. -/
def solitonSharesSpec : ChangeSpec := { name := "solitonShares", fn := fun _ => fun
  | [d1, d2] => { results := [.lit (.bool true)], args := [d1, d2] }
  | _ => none }
def solitonSharesRow : OpenClaim := { program := "ytfgcolplhadcjaa", sum := "b248ee2fb454e61456d941c5ce679e980951510b86e652c5d3662009a72a7f62", func := "downpour/downpourlaw7.SolitonShares", spec := "solitonShares", inPlace := ["sync/atomic.LoadUint32", "(*internal/sync.Mutex).Lock", "internal/race.Disable", "sync/atomic.CompareAndSwapInt32", "internal/race.Enable", "internal/race.Acquire", "(*internal/sync.Mutex).lockSlow", "internal/sync.runtime_canSpin", "internal/sync.runtime_doSpin", "internal/sync.throw", "internal/sync.runtime_nanotime", "internal/sync.runtime_SemacquireMutex", "sync/atomic.AddInt32", "(*internal/sync.Mutex).Unlock", "internal/race.ReleaseMerge", "(*internal/sync.Mutex).unlockSlow", "internal/sync.fatal", "internal/sync.runtime_Semrelease", "sync/atomic.StoreUint32"], unfollowed := true, recurses := true, apart := false }
def SolitonSharesSaid : Prop := solitonSharesRow.holds Try.pinned (OpenSpec.ofChange solitonSharesSpec)

/-- ITS FALSE NEIGHBOUR: 'it returns false'. Refute it at one input. -/
def solitonSharesWrong : ChangeSpec := { name := "solitonShares", fn := fun _ => fun
  | [d1, d2] => { results := [.lit (.bool false)], args := [d1, d2] }
  | _ => none }
def SolitonSharesWrongFalsely : Prop := solitonSharesRow.holds Try.pinned (OpenSpec.ofChange solitonSharesWrong)

/-- 'downpourlaw7.SolitonRoots': WHATEVER THE INPUT: true; the input reads as it did. -/
def solitonRootsSpec : ChangeSpec := { name := "solitonRoots", fn := fun _ => fun
  | [d] => { results := [.lit (.bool true)], args := [d] }
  | _ => none }
def solitonRootsRow : OpenClaim := { program := "ytfgcolplhadcjaa", sum := "b248ee2fb454e61456d941c5ce679e980951510b86e652c5d3662009a72a7f62", func := "downpour/downpourlaw7.SolitonRoots", spec := "solitonRoots", inPlace := ["sync/atomic.LoadUint32", "(*internal/sync.Mutex).Lock", "internal/race.Disable", "sync/atomic.CompareAndSwapInt32", "internal/race.Enable", "internal/race.Acquire", "(*internal/sync.Mutex).lockSlow", "internal/sync.runtime_canSpin", "internal/sync.runtime_doSpin", "internal/sync.throw", "internal/sync.runtime_nanotime", "internal/sync.runtime_SemacquireMutex", "sync/atomic.AddInt32", "(*internal/sync.Mutex).Unlock", "internal/race.ReleaseMerge", "(*internal/sync.Mutex).unlockSlow", "internal/sync.fatal", "internal/sync.runtime_Semrelease", "sync/atomic.StoreUint32"], unfollowed := true, recurses := true, apart := false }
def SolitonRootsSaid : Prop := solitonRootsRow.holds Try.pinned (OpenSpec.ofChange solitonRootsSpec)

/-- ITS FALSE NEIGHBOUR: 'it returns false'. Refute it at one input. -/
def solitonRootsWrong : ChangeSpec := { name := "solitonRoots", fn := fun _ => fun
  | [d] => { results := [.lit (.bool false)], args := [d] }
  | _ => none }
def SolitonRootsWrongFalsely : Prop := solitonRootsRow.holds Try.pinned (OpenSpec.ofChange solitonRootsWrong)

/-- 'downpourlaw7.SolitonWeights': WHATEVER THE INPUT: true; the input reads as it did. -/
def solitonWeightsSpec : ChangeSpec := { name := "solitonWeights", fn := fun _ => fun
  | [d1, d2] => { results := [.lit (.bool true)], args := [d1, d2] }
  | _ => none }
def solitonWeightsRow : OpenClaim := { program := "ytfgcolplhadcjaa", sum := "b248ee2fb454e61456d941c5ce679e980951510b86e652c5d3662009a72a7f62", func := "downpour/downpourlaw7.SolitonWeights", spec := "solitonWeights", inPlace := ["sync/atomic.LoadUint32", "(*internal/sync.Mutex).Lock", "internal/race.Disable", "sync/atomic.CompareAndSwapInt32", "internal/race.Enable", "internal/race.Acquire", "(*internal/sync.Mutex).lockSlow", "internal/sync.runtime_canSpin", "internal/sync.runtime_doSpin", "internal/sync.throw", "internal/sync.runtime_nanotime", "internal/sync.runtime_SemacquireMutex", "sync/atomic.AddInt32", "(*internal/sync.Mutex).Unlock", "internal/race.ReleaseMerge", "(*internal/sync.Mutex).unlockSlow", "internal/sync.fatal", "internal/sync.runtime_Semrelease", "sync/atomic.StoreUint32"], unfollowed := true, recurses := true, apart := false }
def SolitonWeightsSaid : Prop := solitonWeightsRow.holds Try.pinned (OpenSpec.ofChange solitonWeightsSpec)

/-- ITS FALSE NEIGHBOUR: 'it returns false'. Refute it at one input. -/
def solitonWeightsWrong : ChangeSpec := { name := "solitonWeights", fn := fun _ => fun
  | [d1, d2] => { results := [.lit (.bool false)], args := [d1, d2] }
  | _ => none }
def SolitonWeightsWrongFalsely : Prop := solitonWeightsRow.holds Try.pinned (OpenSpec.ofChange solitonWeightsWrong)

/- THE SECOND FORM. 'bulk': how many values and letters a reading holds, each counted each time it is reached (what is shared counts as often as it is met; a slice's spare places count too). A statement '..UptoSaid' is the law's where the arguments, and the package variables that the reading takes, are together of bulk at most 1048576: NARROWER than '..Said'. Prove '..Said' where nothing that the law and all that it calls make is longer than what came in: it says more and counts as full. Else prove '..UptoSaid'. A law counts once. -/
mutual
def uptoBulk {H : Type} : DataW H → Nat
  | .lit (.string bytes) => bytes.length + 1
  | .lit _ => 1
  | .nil => 1
  | .ptr d => uptoBulk d + 1
  | .slice elems spare => uptoBulkAll elems + uptoBulkAll spare + 1
  | .agg parts => uptoBulkAll parts + 1
  | .iface _ d => uptoBulk d + 1
  | .map entries => uptoBulkEntries entries + 1
  | .held _ => 1
def uptoBulkAll {H : Type} : List (DataW H) → Nat
  | [] => 0
  | d :: r => uptoBulk d + uptoBulkAll r
def uptoBulkEntries {H : Type} : List (Lit × DataW H) → Nat
  | [] => 0
  | x :: r => uptoBulkEntry x + uptoBulkEntries r
def uptoBulkEntry {H : Type} : Lit × DataW H → Nat
  | (.string bytes, d) => bytes.length + uptoBulk d + 1
  | (_, d) => uptoBulk d + 1
 end
def uptoSmall : (H : Type) → List (DataW H) → Bool := fun _ ds => decide (uptoBulkAll ds ≤ 1048576)
def OpenSpec.upto (s : _root_.Go.ChangeSpec) : _root_.Go.OpenSpec := { _root_.Go.OpenSpec.ofChange s with cond := some uptoSmall }

/-- 'downpourlaw4.RandNil', WHERE WHAT IT READS IS OF BULK AT MOST 1048576: true; the input reads as it did. -/
def randNilUptoRow : OpenClaim := { program := "ytfgcolplhadcjaa", sum := "b248ee2fb454e61456d941c5ce679e980951510b86e652c5d3662009a72a7f62", func := "downpour/downpourlaw4.RandNil", spec := "randNil", inPlace := ["sync/atomic.LoadUint32", "sync/atomic.StoreUint32"], recurses := true, apart := false, narrowed := true }
def RandNilUptoSaid : Prop := randNilUptoRow.holds Try.pinned (OpenSpec.upto randNilSpec)

/-- 'downpourlaw4.RandSome', WHERE WHAT IT READS IS OF BULK AT MOST 1048576: true; the input reads as it did. -/
def randSomeUptoRow : OpenClaim := { program := "ytfgcolplhadcjaa", sum := "b248ee2fb454e61456d941c5ce679e980951510b86e652c5d3662009a72a7f62", func := "downpour/downpourlaw4.RandSome", spec := "randSome", inPlace := ["sync/atomic.StoreUint32", "sync/atomic.LoadUint32"], recurses := true, apart := false, narrowed := true }
def RandSomeUptoSaid : Prop := randSomeUptoRow.holds Try.pinned (OpenSpec.upto randSomeSpec)

/-- 'downpourlaw4.RandBelow', WHERE WHAT IT READS IS OF BULK AT MOST 1048576: true; the input reads as it did. -/
def randBelowUptoRow : OpenClaim := { program := "ytfgcolplhadcjaa", sum := "b248ee2fb454e61456d941c5ce679e980951510b86e652c5d3662009a72a7f62", func := "downpour/downpourlaw4.RandBelow", spec := "randBelow", inPlace := ["sync/atomic.StoreUint32", "sync/atomic.LoadUint32"], recurses := true, apart := false, narrowed := true }
def RandBelowUptoSaid : Prop := randBelowUptoRow.holds Try.pinned (OpenSpec.upto randBelowSpec)

/-- 'downpourlaw4.RandRows', WHERE WHAT IT READS IS OF BULK AT MOST 1048576: true; the input reads as it did. -/
def randRowsUptoRow : OpenClaim := { program := "ytfgcolplhadcjaa", sum := "b248ee2fb454e61456d941c5ce679e980951510b86e652c5d3662009a72a7f62", func := "downpour/downpourlaw4.RandRows", spec := "randRows", inPlace := ["sync/atomic.StoreUint32", "sync/atomic.LoadUint32"], recurses := true, apart := false, narrowed := true }
def RandRowsUptoSaid : Prop := randRowsUptoRow.holds Try.pinned (OpenSpec.upto randRowsSpec)

/-- 'downpourlaw4.RandAll', WHERE WHAT IT READS IS OF BULK AT MOST 1048576: true; the input reads as it did. -/
def randAllUptoRow : OpenClaim := { program := "ytfgcolplhadcjaa", sum := "b248ee2fb454e61456d941c5ce679e980951510b86e652c5d3662009a72a7f62", func := "downpour/downpourlaw4.RandAll", spec := "randAll", inPlace := ["sync/atomic.StoreUint32", "sync/atomic.LoadUint32"], recurses := true, apart := false, narrowed := true }
def RandAllUptoSaid : Prop := randAllUptoRow.holds Try.pinned (OpenSpec.upto randAllSpec)

/-- 'downpourlaw7.SolitonNil', WHERE WHAT IT READS IS OF BULK AT MOST 1048576: true; the input reads as it did. -/
def solitonNilUptoRow : OpenClaim := { program := "ytfgcolplhadcjaa", sum := "b248ee2fb454e61456d941c5ce679e980951510b86e652c5d3662009a72a7f62", func := "downpour/downpourlaw7.SolitonNil", spec := "solitonNil", inPlace := ["sync/atomic.LoadUint32", "(*internal/sync.Mutex).Lock", "internal/race.Disable", "sync/atomic.CompareAndSwapInt32", "internal/race.Enable", "internal/race.Acquire", "(*internal/sync.Mutex).lockSlow", "internal/sync.runtime_canSpin", "internal/sync.runtime_doSpin", "internal/sync.throw", "internal/sync.runtime_nanotime", "internal/sync.runtime_SemacquireMutex", "sync/atomic.AddInt32", "(*internal/sync.Mutex).Unlock", "internal/race.ReleaseMerge", "(*internal/sync.Mutex).unlockSlow", "internal/sync.fatal", "internal/sync.runtime_Semrelease", "sync/atomic.StoreUint32"], unfollowed := true, recurses := true, apart := false, narrowed := true }
def SolitonNilUptoSaid : Prop := solitonNilUptoRow.holds Try.pinned (OpenSpec.upto solitonNilSpec)

/-- 'downpourlaw7.SolitonRises', WHERE WHAT IT READS IS OF BULK AT MOST 1048576: true; the input reads as it did. -/
def solitonRisesUptoRow : OpenClaim := { program := "ytfgcolplhadcjaa", sum := "b248ee2fb454e61456d941c5ce679e980951510b86e652c5d3662009a72a7f62", func := "downpour/downpourlaw7.SolitonRises", spec := "solitonRises", inPlace := ["sync/atomic.LoadUint32", "(*internal/sync.Mutex).Lock", "internal/race.Disable", "sync/atomic.CompareAndSwapInt32", "internal/race.Enable", "internal/race.Acquire", "(*internal/sync.Mutex).lockSlow", "internal/sync.runtime_canSpin", "internal/sync.runtime_doSpin", "internal/sync.throw", "internal/sync.runtime_nanotime", "internal/sync.runtime_SemacquireMutex", "sync/atomic.AddInt32", "(*internal/sync.Mutex).Unlock", "internal/race.ReleaseMerge", "(*internal/sync.Mutex).unlockSlow", "internal/sync.fatal", "internal/sync.runtime_Semrelease", "sync/atomic.StoreUint32"], unfollowed := true, recurses := true, apart := false, narrowed := true }
def SolitonRisesUptoSaid : Prop := solitonRisesUptoRow.holds Try.pinned (OpenSpec.upto solitonRisesSpec)

/-- 'downpourlaw7.SolitonShares', WHERE WHAT IT READS IS OF BULK AT MOST 1048576: true; the input reads as it did. -/
def solitonSharesUptoRow : OpenClaim := { program := "ytfgcolplhadcjaa", sum := "b248ee2fb454e61456d941c5ce679e980951510b86e652c5d3662009a72a7f62", func := "downpour/downpourlaw7.SolitonShares", spec := "solitonShares", inPlace := ["sync/atomic.LoadUint32", "(*internal/sync.Mutex).Lock", "internal/race.Disable", "sync/atomic.CompareAndSwapInt32", "internal/race.Enable", "internal/race.Acquire", "(*internal/sync.Mutex).lockSlow", "internal/sync.runtime_canSpin", "internal/sync.runtime_doSpin", "internal/sync.throw", "internal/sync.runtime_nanotime", "internal/sync.runtime_SemacquireMutex", "sync/atomic.AddInt32", "(*internal/sync.Mutex).Unlock", "internal/race.ReleaseMerge", "(*internal/sync.Mutex).unlockSlow", "internal/sync.fatal", "internal/sync.runtime_Semrelease", "sync/atomic.StoreUint32"], unfollowed := true, recurses := true, apart := false, narrowed := true }
def SolitonSharesUptoSaid : Prop := solitonSharesUptoRow.holds Try.pinned (OpenSpec.upto solitonSharesSpec)

/-- 'downpourlaw7.SolitonRoots', WHERE WHAT IT READS IS OF BULK AT MOST 1048576: true; the input reads as it did. -/
def solitonRootsUptoRow : OpenClaim := { program := "ytfgcolplhadcjaa", sum := "b248ee2fb454e61456d941c5ce679e980951510b86e652c5d3662009a72a7f62", func := "downpour/downpourlaw7.SolitonRoots", spec := "solitonRoots", inPlace := ["sync/atomic.LoadUint32", "(*internal/sync.Mutex).Lock", "internal/race.Disable", "sync/atomic.CompareAndSwapInt32", "internal/race.Enable", "internal/race.Acquire", "(*internal/sync.Mutex).lockSlow", "internal/sync.runtime_canSpin", "internal/sync.runtime_doSpin", "internal/sync.throw", "internal/sync.runtime_nanotime", "internal/sync.runtime_SemacquireMutex", "sync/atomic.AddInt32", "(*internal/sync.Mutex).Unlock", "internal/race.ReleaseMerge", "(*internal/sync.Mutex).unlockSlow", "internal/sync.fatal", "internal/sync.runtime_Semrelease", "sync/atomic.StoreUint32"], unfollowed := true, recurses := true, apart := false, narrowed := true }
def SolitonRootsUptoSaid : Prop := solitonRootsUptoRow.holds Try.pinned (OpenSpec.upto solitonRootsSpec)

/-- 'downpourlaw7.SolitonWeights', WHERE WHAT IT READS IS OF BULK AT MOST 1048576: true; the input reads as it did. -/
def solitonWeightsUptoRow : OpenClaim := { program := "ytfgcolplhadcjaa", sum := "b248ee2fb454e61456d941c5ce679e980951510b86e652c5d3662009a72a7f62", func := "downpour/downpourlaw7.SolitonWeights", spec := "solitonWeights", inPlace := ["sync/atomic.LoadUint32", "(*internal/sync.Mutex).Lock", "internal/race.Disable", "sync/atomic.CompareAndSwapInt32", "internal/race.Enable", "internal/race.Acquire", "(*internal/sync.Mutex).lockSlow", "internal/sync.runtime_canSpin", "internal/sync.runtime_doSpin", "internal/sync.throw", "internal/sync.runtime_nanotime", "internal/sync.runtime_SemacquireMutex", "sync/atomic.AddInt32", "(*internal/sync.Mutex).Unlock", "internal/race.ReleaseMerge", "(*internal/sync.Mutex).unlockSlow", "internal/sync.fatal", "internal/sync.runtime_Semrelease", "sync/atomic.StoreUint32"], unfollowed := true, recurses := true, apart := false, narrowed := true }
def SolitonWeightsUptoSaid : Prop := solitonWeightsUptoRow.holds Try.pinned (OpenSpec.upto solitonWeightsSpec)

end Rows
end Go.Proofs.Ytfgcolplhadcjaa
