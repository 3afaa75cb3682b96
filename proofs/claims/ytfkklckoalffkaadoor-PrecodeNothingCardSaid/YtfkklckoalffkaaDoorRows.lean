/-
  NARROWER THAN 'FOR EVERY INPUT', by the rows' own cells (each row's printed sentence says how): SpreadSome: laid · SpreadApart: laid · SpreadSessions: laid · SpreadRefuses: laid · PrecodeForms: laid · PrecodeNothing: laid · PrecodeFew: laid.
  DERIVED. THE GIVEN ROWS OF THIS SEAT. 7 by the template 'for every input the law returns true; each argument reads behind the call as it read before'; 0 by the template 'total and deterministic' (their statements: YtfkklckoalffkaaDoorTotals.lean).
  GIVEN WITH THE SEED: the statements are not yours to turn. If you find one false, say at which input.
  Laid BY PROGRAM, IN A SANDBOX (cutbox-rows.mjs): the forced cells as the released guide's own fill.sh prints them over the translation 77dca192694655a1… (all of the seat's roots in one cut). By AI agents, Wed Nov 11 2026. No macro, syntax, notation, axiom, sorry.
-/
import Derived.Test.YtfkklckoalffkaaDoorChecked
import GoSem.Claim
import GoSem.ClaimJoined
import GoSem.ClaimMapViews
import Derived.JoinedTies
import Derived.KernelRfl
namespace Go.Proofs.YtfkklckoalffkaaDoor
/- THE CELL 'sum', in the pinned program and in every row, IS THE sha256 OF THE DUMP (.gsa) THAT YtfkklckoalffkaaDoorProg.lean LOADS. Nothing in Lean hashes anything: it is a label: what it is worth is what the hold of that sum in a sandbox is worth. -/
noncomputable def Tryd.pinned : Pinned := { name := "ytfkklckoalffkaadoor", sum := "77dca192694655a16655f1853a92ced726f7814cc63ba506306b94ca1eff05f6", checked := Tryd.checked }
namespace Rows
def none {H : Type} : Left H := { results := [], args := [] }

/- WHAT THE LISTED PACKAGE-LEVEL VARIABLES READ AS WHEN THE CALL BEGINS. Each datum BY PROGRAM (the guide's laid-datum.mjs) off the statement by which the dump's own 'gosem.cut.vars' lays the variable. In a bare row this is a premise. The card (YtfkklckoalffkaaDoorCards.lean) ties it to the program's text. -/
def laid_math_bits_deBruijn64tab {H : Type} : DataW H := .agg [.lit (.int .u8 0), .lit (.int .u8 1), .lit (.int .u8 56), .lit (.int .u8 2), .lit (.int .u8 57), .lit (.int .u8 49), .lit (.int .u8 28), .lit (.int .u8 3), .lit (.int .u8 61), .lit (.int .u8 58), .lit (.int .u8 42), .lit (.int .u8 50), .lit (.int .u8 38), .lit (.int .u8 29), .lit (.int .u8 17), .lit (.int .u8 4), .lit (.int .u8 62), .lit (.int .u8 47), .lit (.int .u8 59), .lit (.int .u8 36), .lit (.int .u8 45), .lit (.int .u8 43), .lit (.int .u8 51), .lit (.int .u8 22), .lit (.int .u8 53), .lit (.int .u8 39), .lit (.int .u8 33), .lit (.int .u8 30), .lit (.int .u8 24), .lit (.int .u8 18), .lit (.int .u8 12), .lit (.int .u8 5), .lit (.int .u8 63), .lit (.int .u8 55), .lit (.int .u8 48), .lit (.int .u8 27), .lit (.int .u8 60), .lit (.int .u8 41), .lit (.int .u8 37), .lit (.int .u8 16), .lit (.int .u8 46), .lit (.int .u8 35), .lit (.int .u8 44), .lit (.int .u8 21), .lit (.int .u8 52), .lit (.int .u8 32), .lit (.int .u8 23), .lit (.int .u8 11), .lit (.int .u8 54), .lit (.int .u8 26), .lit (.int .u8 40), .lit (.int .u8 15), .lit (.int .u8 34), .lit (.int .u8 20), .lit (.int .u8 31), .lit (.int .u8 10), .lit (.int .u8 25), .lit (.int .u8 14), .lit (.int .u8 19), .lit (.int .u8 9), .lit (.int .u8 13), .lit (.int .u8 8), .lit (.int .u8 7), .lit (.int .u8 6)]

/-- 'downpourlaw8.SpreadSome': WHATEVER THE INPUT: true; the input reads as it did. -/
def spreadSomeSpec : ChangeSpec := { name := "spreadSome", fn := fun _ => fun
  | [d1, d2, d3] => { results := [.lit (.bool true)], args := [d1, d2, d3] }
  | _ => none }
def spreadSomeRow : OpenClaim := { program := "ytfkklckoalffkaadoor", sum := "77dca192694655a16655f1853a92ced726f7814cc63ba506306b94ca1eff05f6", func := "downpour/downpourlaw8.SpreadSome", spec := "spreadSome", inPlace := ["sync/atomic.StoreUint32", "sync/atomic.LoadUint32", "(*internal/sync.Mutex).Lock", "internal/race.Disable", "sync/atomic.CompareAndSwapInt32", "internal/race.Enable", "internal/race.Acquire", "(*internal/sync.Mutex).lockSlow", "internal/sync.runtime_canSpin", "internal/sync.runtime_doSpin", "internal/sync.throw", "internal/sync.runtime_nanotime", "internal/sync.runtime_SemacquireMutex", "sync/atomic.AddInt32", "(*internal/sync.Mutex).Unlock", "internal/race.ReleaseMerge", "(*internal/sync.Mutex).unlockSlow", "internal/sync.fatal", "internal/sync.runtime_Semrelease"], unfollowed := true, recurses := true, named := ["math/bits.deBruijn64tab"], apart := false, laid := [("math/bits.deBruijn64tab", laid_math_bits_deBruijn64tab)] }
def SpreadSomeSaid : Prop := spreadSomeRow.holds Tryd.pinned (OpenSpec.ofChange spreadSomeSpec)

/-- ITS FALSE NEIGHBOUR: 'it returns false'. Refute it at one input. -/
def spreadSomeWrong : ChangeSpec := { name := "spreadSome", fn := fun _ => fun
  | [d1, d2, d3] => { results := [.lit (.bool false)], args := [d1, d2, d3] }
  | _ => none }
def SpreadSomeWrongFalsely : Prop := spreadSomeRow.holds Tryd.pinned (OpenSpec.ofChange spreadSomeWrong)

/-- 'downpourlaw8.SpreadApart': WHATEVER THE INPUT: true; the input reads as it did. -/
def spreadApartSpec : ChangeSpec := { name := "spreadApart", fn := fun _ => fun
  | [d1, d2, d3] => { results := [.lit (.bool true)], args := [d1, d2, d3] }
  | _ => none }
def spreadApartRow : OpenClaim := { program := "ytfkklckoalffkaadoor", sum := "77dca192694655a16655f1853a92ced726f7814cc63ba506306b94ca1eff05f6", func := "downpour/downpourlaw8.SpreadApart", spec := "spreadApart", inPlace := ["sync/atomic.StoreUint32", "sync/atomic.LoadUint32", "(*internal/sync.Mutex).Lock", "internal/race.Disable", "sync/atomic.CompareAndSwapInt32", "internal/race.Enable", "internal/race.Acquire", "(*internal/sync.Mutex).lockSlow", "internal/sync.runtime_canSpin", "internal/sync.runtime_doSpin", "internal/sync.throw", "internal/sync.runtime_nanotime", "internal/sync.runtime_SemacquireMutex", "sync/atomic.AddInt32", "(*internal/sync.Mutex).Unlock", "internal/race.ReleaseMerge", "(*internal/sync.Mutex).unlockSlow", "internal/sync.fatal", "internal/sync.runtime_Semrelease"], unfollowed := true, recurses := true, named := ["math/bits.deBruijn64tab"], apart := false, laid := [("math/bits.deBruijn64tab", laid_math_bits_deBruijn64tab)] }
def SpreadApartSaid : Prop := spreadApartRow.holds Tryd.pinned (OpenSpec.ofChange spreadApartSpec)

/-- ITS FALSE NEIGHBOUR: 'it returns false'. Refute it at one input. -/
def spreadApartWrong : ChangeSpec := { name := "spreadApart", fn := fun _ => fun
  | [d1, d2, d3] => { results := [.lit (.bool false)], args := [d1, d2, d3] }
  | _ => none }
def SpreadApartWrongFalsely : Prop := spreadApartRow.holds Tryd.pinned (OpenSpec.ofChange spreadApartWrong)

/-- 'downpourlaw8.SpreadSessions': WHATEVER THE INPUT: true; the input reads as it did. -/
def spreadSessionsSpec : ChangeSpec := { name := "spreadSessions", fn := fun _ => fun
  | [d1, d2, d3] => { results := [.lit (.bool true)], args := [d1, d2, d3] }
  | _ => none }
def spreadSessionsRow : OpenClaim := { program := "ytfkklckoalffkaadoor", sum := "77dca192694655a16655f1853a92ced726f7814cc63ba506306b94ca1eff05f6", func := "downpour/downpourlaw8.SpreadSessions", spec := "spreadSessions", inPlace := ["sync/atomic.StoreUint32", "sync/atomic.LoadUint32", "(*internal/sync.Mutex).Lock", "internal/race.Disable", "sync/atomic.CompareAndSwapInt32", "internal/race.Enable", "internal/race.Acquire", "(*internal/sync.Mutex).lockSlow", "internal/sync.runtime_canSpin", "internal/sync.runtime_doSpin", "internal/sync.throw", "internal/sync.runtime_nanotime", "internal/sync.runtime_SemacquireMutex", "sync/atomic.AddInt32", "(*internal/sync.Mutex).Unlock", "internal/race.ReleaseMerge", "(*internal/sync.Mutex).unlockSlow", "internal/sync.fatal", "internal/sync.runtime_Semrelease"], unfollowed := true, recurses := true, named := ["math/bits.deBruijn64tab"], apart := false, laid := [("math/bits.deBruijn64tab", laid_math_bits_deBruijn64tab)] }
def SpreadSessionsSaid : Prop := spreadSessionsRow.holds Tryd.pinned (OpenSpec.ofChange spreadSessionsSpec)

/-- ITS FALSE NEIGHBOUR: 'it returns false'. Refute it at one input. -/
def spreadSessionsWrong : ChangeSpec := { name := "spreadSessions", fn := fun _ => fun
  | [d1, d2, d3] => { results := [.lit (.bool false)], args := [d1, d2, d3] }
  | _ => none }
def SpreadSessionsWrongFalsely : Prop := spreadSessionsRow.holds Tryd.pinned (OpenSpec.ofChange spreadSessionsWrong)

/-- 'downpourlaw8.SpreadRefuses': WHATEVER THE INPUT: true; the input reads as it did. -/
def spreadRefusesSpec : ChangeSpec := { name := "spreadRefuses", fn := fun _ => fun
  | [d1, d2, d3] => { results := [.lit (.bool true)], args := [d1, d2, d3] }
  | _ => none }
def spreadRefusesRow : OpenClaim := { program := "ytfkklckoalffkaadoor", sum := "77dca192694655a16655f1853a92ced726f7814cc63ba506306b94ca1eff05f6", func := "downpour/downpourlaw8.SpreadRefuses", spec := "spreadRefuses", inPlace := ["sync/atomic.StoreUint32", "sync/atomic.LoadUint32", "(*internal/sync.Mutex).Lock", "internal/race.Disable", "sync/atomic.CompareAndSwapInt32", "internal/race.Enable", "internal/race.Acquire", "(*internal/sync.Mutex).lockSlow", "internal/sync.runtime_canSpin", "internal/sync.runtime_doSpin", "internal/sync.throw", "internal/sync.runtime_nanotime", "internal/sync.runtime_SemacquireMutex", "sync/atomic.AddInt32", "(*internal/sync.Mutex).Unlock", "internal/race.ReleaseMerge", "(*internal/sync.Mutex).unlockSlow", "internal/sync.fatal", "internal/sync.runtime_Semrelease"], unfollowed := true, recurses := true, named := ["math/bits.deBruijn64tab"], apart := false, laid := [("math/bits.deBruijn64tab", laid_math_bits_deBruijn64tab)] }
def SpreadRefusesSaid : Prop := spreadRefusesRow.holds Tryd.pinned (OpenSpec.ofChange spreadRefusesSpec)

/-- ITS FALSE NEIGHBOUR: 'it returns false'. Refute it at one input. -/
def spreadRefusesWrong : ChangeSpec := { name := "spreadRefuses", fn := fun _ => fun
  | [d1, d2, d3] => { results := [.lit (.bool false)], args := [d1, d2, d3] }
  | _ => none }
def SpreadRefusesWrongFalsely : Prop := spreadRefusesRow.holds Tryd.pinned (OpenSpec.ofChange spreadRefusesWrong)

/-- 'downpourlaw9.PrecodeForms': WHATEVER THE INPUT: true; the input reads as it did. -/
def precodeFormsSpec : ChangeSpec := { name := "precodeForms", fn := fun _ => fun
  | [d1, d2] => { results := [.lit (.bool true)], args := [d1, d2] }
  | _ => none }
def precodeFormsRow : OpenClaim := { program := "ytfkklckoalffkaadoor", sum := "77dca192694655a16655f1853a92ced726f7814cc63ba506306b94ca1eff05f6", func := "downpour/downpourlaw9.PrecodeForms", spec := "precodeForms", inPlace := ["sync/atomic.StoreUint32", "sync/atomic.LoadUint32"], named := ["math/bits.deBruijn64tab"], apart := false, laid := [("math/bits.deBruijn64tab", laid_math_bits_deBruijn64tab)] }
def PrecodeFormsSaid : Prop := precodeFormsRow.holds Tryd.pinned (OpenSpec.ofChange precodeFormsSpec)

/-- ITS FALSE NEIGHBOUR: 'it returns false'. Refute it at one input. -/
def precodeFormsWrong : ChangeSpec := { name := "precodeForms", fn := fun _ => fun
  | [d1, d2] => { results := [.lit (.bool false)], args := [d1, d2] }
  | _ => none }
def PrecodeFormsWrongFalsely : Prop := precodeFormsRow.holds Tryd.pinned (OpenSpec.ofChange precodeFormsWrong)

/-- 'downpourlaw9.PrecodeNothing': WHATEVER THE INPUT: true; the input reads as it did. -/
def precodeNothingSpec : ChangeSpec := { name := "precodeNothing", fn := fun _ => fun
  | [d1, d2] => { results := [.lit (.bool true)], args := [d1, d2] }
  | _ => none }
def precodeNothingRow : OpenClaim := { program := "ytfkklckoalffkaadoor", sum := "77dca192694655a16655f1853a92ced726f7814cc63ba506306b94ca1eff05f6", func := "downpour/downpourlaw9.PrecodeNothing", spec := "precodeNothing", inPlace := ["sync/atomic.StoreUint32", "sync/atomic.LoadUint32"], named := ["math/bits.deBruijn64tab"], apart := false, laid := [("math/bits.deBruijn64tab", laid_math_bits_deBruijn64tab)] }
def PrecodeNothingSaid : Prop := precodeNothingRow.holds Tryd.pinned (OpenSpec.ofChange precodeNothingSpec)

/-- ITS FALSE NEIGHBOUR: 'it returns false'. Refute it at one input. -/
def precodeNothingWrong : ChangeSpec := { name := "precodeNothing", fn := fun _ => fun
  | [d1, d2] => { results := [.lit (.bool false)], args := [d1, d2] }
  | _ => none }
def PrecodeNothingWrongFalsely : Prop := precodeNothingRow.holds Tryd.pinned (OpenSpec.ofChange precodeNothingWrong)

/-- 'downpourlaw9.PrecodeFew': WHATEVER THE INPUT: true; the input reads as it did. -/
def precodeFewSpec : ChangeSpec := { name := "precodeFew", fn := fun _ => fun
  | [d1, d2] => { results := [.lit (.bool true)], args := [d1, d2] }
  | _ => none }
def precodeFewRow : OpenClaim := { program := "ytfkklckoalffkaadoor", sum := "77dca192694655a16655f1853a92ced726f7814cc63ba506306b94ca1eff05f6", func := "downpour/downpourlaw9.PrecodeFew", spec := "precodeFew", inPlace := ["sync/atomic.StoreUint32", "sync/atomic.LoadUint32"], named := ["math/bits.deBruijn64tab"], apart := false, laid := [("math/bits.deBruijn64tab", laid_math_bits_deBruijn64tab)] }
def PrecodeFewSaid : Prop := precodeFewRow.holds Tryd.pinned (OpenSpec.ofChange precodeFewSpec)

/-- ITS FALSE NEIGHBOUR: 'it returns false'. Refute it at one input. -/
def precodeFewWrong : ChangeSpec := { name := "precodeFew", fn := fun _ => fun
  | [d1, d2] => { results := [.lit (.bool false)], args := [d1, d2] }
  | _ => none }
def PrecodeFewWrongFalsely : Prop := precodeFewRow.holds Tryd.pinned (OpenSpec.ofChange precodeFewWrong)

/- THE SECOND FORM. 'bulk': how many values and letters a reading holds, each counted each time it is reached (what is shared counts as often as it is met; a slice's spare places count too). A statement '..UptoSaid' is the law's where the arguments, and the package variables that the reading takes, are together of bulk at most 1048576: NARROWER than '..Said'. Prove '..Said' where nothing that the law and all that it calls make is longer than what came in: it says more and counts as full. Else prove '..UptoSaid'. A law counts once. -/
mutual
def uptoBulk {H : Type} : DataW H → Nat
  | .lit (.string bytes) => bytes.length + 1
  | .lit _ => 1
  | .nil => 1
  | .ptr d => uptoBulk d + 1
  | .slice elems spare => uptoBulkAll elems + uptoBulkAll spare + 1
  | .agg parts => uptoBulkAll parts + 1
  | .iface _ d => uptoBulk d + 1
  | .map entries => uptoBulkEntries entries + 1
  | .held _ => 1
def uptoBulkAll {H : Type} : List (DataW H) → Nat
  | [] => 0
  | d :: r => uptoBulk d + uptoBulkAll r
def uptoBulkEntries {H : Type} : List (Lit × DataW H) → Nat
  | [] => 0
  | x :: r => uptoBulkEntry x + uptoBulkEntries r
def uptoBulkEntry {H : Type} : Lit × DataW H → Nat
  | (.string bytes, d) => bytes.length + uptoBulk d + 1
  | (_, d) => uptoBulk d + 1
 end
def uptoSmall : (H : Type) → List (DataW H) → Bool := fun _ ds => decide (uptoBulkAll ds ≤ 1048576)
def OpenSpec.upto (s : _root_.Go.ChangeSpec) : _root_.Go.OpenSpec := { _root_.Go.OpenSpec.ofChange s with cond := some uptoSmall }

/-- 'downpourlaw8.SpreadSome', WHERE WHAT IT READS IS OF BULK AT MOST 1048576: true; the input reads as it did. -/
def spreadSomeUptoRow : OpenClaim := { program := "ytfkklckoalffkaadoor", sum := "77dca192694655a16655f1853a92ced726f7814cc63ba506306b94ca1eff05f6", func := "downpour/downpourlaw8.SpreadSome", spec := "spreadSome", inPlace := ["sync/atomic.StoreUint32", "sync/atomic.LoadUint32", "(*internal/sync.Mutex).Lock", "internal/race.Disable", "sync/atomic.CompareAndSwapInt32", "internal/race.Enable", "internal/race.Acquire", "(*internal/sync.Mutex).lockSlow", "internal/sync.runtime_canSpin", "internal/sync.runtime_doSpin", "internal/sync.throw", "internal/sync.runtime_nanotime", "internal/sync.runtime_SemacquireMutex", "sync/atomic.AddInt32", "(*internal/sync.Mutex).Unlock", "internal/race.ReleaseMerge", "(*internal/sync.Mutex).unlockSlow", "internal/sync.fatal", "internal/sync.runtime_Semrelease"], unfollowed := true, recurses := true, named := ["math/bits.deBruijn64tab"], apart := false, laid := [("math/bits.deBruijn64tab", laid_math_bits_deBruijn64tab)], narrowed := true }
def SpreadSomeUptoSaid : Prop := spreadSomeUptoRow.holds Tryd.pinned (OpenSpec.upto spreadSomeSpec)

/-- 'downpourlaw8.SpreadApart', WHERE WHAT IT READS IS OF BULK AT MOST 1048576: true; the input reads as it did. -/
def spreadApartUptoRow : OpenClaim := { program := "ytfkklckoalffkaadoor", sum := "77dca192694655a16655f1853a92ced726f7814cc63ba506306b94ca1eff05f6", func := "downpour/downpourlaw8.SpreadApart", spec := "spreadApart", inPlace := ["sync/atomic.StoreUint32", "sync/atomic.LoadUint32", "(*internal/sync.Mutex).Lock", "internal/race.Disable", "sync/atomic.CompareAndSwapInt32", "internal/race.Enable", "internal/race.Acquire", "(*internal/sync.Mutex).lockSlow", "internal/sync.runtime_canSpin", "internal/sync.runtime_doSpin", "internal/sync.throw", "internal/sync.runtime_nanotime", "internal/sync.runtime_SemacquireMutex", "sync/atomic.AddInt32", "(*internal/sync.Mutex).Unlock", "internal/race.ReleaseMerge", "(*internal/sync.Mutex).unlockSlow", "internal/sync.fatal", "internal/sync.runtime_Semrelease"], unfollowed := true, recurses := true, named := ["math/bits.deBruijn64tab"], apart := false, laid := [("math/bits.deBruijn64tab", laid_math_bits_deBruijn64tab)], narrowed := true }
def SpreadApartUptoSaid : Prop := spreadApartUptoRow.holds Tryd.pinned (OpenSpec.upto spreadApartSpec)

/-- 'downpourlaw8.SpreadSessions', WHERE WHAT IT READS IS OF BULK AT MOST 1048576: true; the input reads as it did. -/
def spreadSessionsUptoRow : OpenClaim := { program := "ytfkklckoalffkaadoor", sum := "77dca192694655a16655f1853a92ced726f7814cc63ba506306b94ca1eff05f6", func := "downpour/downpourlaw8.SpreadSessions", spec := "spreadSessions", inPlace := ["sync/atomic.StoreUint32", "sync/atomic.LoadUint32", "(*internal/sync.Mutex).Lock", "internal/race.Disable", "sync/atomic.CompareAndSwapInt32", "internal/race.Enable", "internal/race.Acquire", "(*internal/sync.Mutex).lockSlow", "internal/sync.runtime_canSpin", "internal/sync.runtime_doSpin", "internal/sync.throw", "internal/sync.runtime_nanotime", "internal/sync.runtime_SemacquireMutex", "sync/atomic.AddInt32", "(*internal/sync.Mutex).Unlock", "internal/race.ReleaseMerge", "(*internal/sync.Mutex).unlockSlow", "internal/sync.fatal", "internal/sync.runtime_Semrelease"], unfollowed := true, recurses := true, named := ["math/bits.deBruijn64tab"], apart := false, laid := [("math/bits.deBruijn64tab", laid_math_bits_deBruijn64tab)], narrowed := true }
def SpreadSessionsUptoSaid : Prop := spreadSessionsUptoRow.holds Tryd.pinned (OpenSpec.upto spreadSessionsSpec)

/-- 'downpourlaw8.SpreadRefuses', WHERE WHAT IT READS IS OF BULK AT MOST 1048576: true; the input reads as it did. -/
def spreadRefusesUptoRow : OpenClaim := { program := "ytfkklckoalffkaadoor", sum := "77dca192694655a16655f1853a92ced726f7814cc63ba506306b94ca1eff05f6", func := "downpour/downpourlaw8.SpreadRefuses", spec := "spreadRefuses", inPlace := ["sync/atomic.StoreUint32", "sync/atomic.LoadUint32", "(*internal/sync.Mutex).Lock", "internal/race.Disable", "sync/atomic.CompareAndSwapInt32", "internal/race.Enable", "internal/race.Acquire", "(*internal/sync.Mutex).lockSlow", "internal/sync.runtime_canSpin", "internal/sync.runtime_doSpin", "internal/sync.throw", "internal/sync.runtime_nanotime", "internal/sync.runtime_SemacquireMutex", "sync/atomic.AddInt32", "(*internal/sync.Mutex).Unlock", "internal/race.ReleaseMerge", "(*internal/sync.Mutex).unlockSlow", "internal/sync.fatal", "internal/sync.runtime_Semrelease"], unfollowed := true, recurses := true, named := ["math/bits.deBruijn64tab"], apart := false, laid := [("math/bits.deBruijn64tab", laid_math_bits_deBruijn64tab)], narrowed := true }
def SpreadRefusesUptoSaid : Prop := spreadRefusesUptoRow.holds Tryd.pinned (OpenSpec.upto spreadRefusesSpec)

/-- 'downpourlaw9.PrecodeForms', WHERE WHAT IT READS IS OF BULK AT MOST 1048576: true; the input reads as it did. -/
def precodeFormsUptoRow : OpenClaim := { program := "ytfkklckoalffkaadoor", sum := "77dca192694655a16655f1853a92ced726f7814cc63ba506306b94ca1eff05f6", func := "downpour/downpourlaw9.PrecodeForms", spec := "precodeForms", inPlace := ["sync/atomic.StoreUint32", "sync/atomic.LoadUint32"], named := ["math/bits.deBruijn64tab"], apart := false, laid := [("math/bits.deBruijn64tab", laid_math_bits_deBruijn64tab)], narrowed := true }
def PrecodeFormsUptoSaid : Prop := precodeFormsUptoRow.holds Tryd.pinned (OpenSpec.upto precodeFormsSpec)

/-- 'downpourlaw9.PrecodeNothing', WHERE WHAT IT READS IS OF BULK AT MOST 1048576: true; the input reads as it did. -/
def precodeNothingUptoRow : OpenClaim := { program := "ytfkklckoalffkaadoor", sum := "77dca192694655a16655f1853a92ced726f7814cc63ba506306b94ca1eff05f6", func := "downpour/downpourlaw9.PrecodeNothing", spec := "precodeNothing", inPlace := ["sync/atomic.StoreUint32", "sync/atomic.LoadUint32"], named := ["math/bits.deBruijn64tab"], apart := false, laid := [("math/bits.deBruijn64tab", laid_math_bits_deBruijn64tab)], narrowed := true }
def PrecodeNothingUptoSaid : Prop := precodeNothingUptoRow.holds Tryd.pinned (OpenSpec.upto precodeNothingSpec)

/-- 'downpourlaw9.PrecodeFew', WHERE WHAT IT READS IS OF BULK AT MOST 1048576: true; the input reads as it did. -/
def precodeFewUptoRow : OpenClaim := { program := "ytfkklckoalffkaadoor", sum := "77dca192694655a16655f1853a92ced726f7814cc63ba506306b94ca1eff05f6", func := "downpour/downpourlaw9.PrecodeFew", spec := "precodeFew", inPlace := ["sync/atomic.StoreUint32", "sync/atomic.LoadUint32"], named := ["math/bits.deBruijn64tab"], apart := false, laid := [("math/bits.deBruijn64tab", laid_math_bits_deBruijn64tab)], narrowed := true }
def PrecodeFewUptoSaid : Prop := precodeFewUptoRow.holds Tryd.pinned (OpenSpec.upto precodeFewSpec)

end Rows
end Go.Proofs.YtfkklckoalffkaaDoor
