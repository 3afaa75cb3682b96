/-
  NARROWER THAN 'FOR EVERY INPUT', by the rows' own cells (each row's printed sentence says how): DigestForms: laid · DigestCuts: laid · DigestBorders: laid · DigestOnce: laid · DigestLong: laid · MacForms: laid · MacRight: laid · MacKeys: laid · MacLong: laid · MacInner: laid.
  DERIVED. THE GIVEN ROWS OF THIS SEAT. 10 by the template 'for every input the law returns true; each argument reads behind the call as it read before'; 0 by the template 'total and deterministic' (their statements: YtapjaagigjfidaaDoorTotals.lean).
  GIVEN WITH THE SEED: the statements are not yours to turn. If you find one false, say at which input.
  Laid BY PROGRAM, IN A SANDBOX (cutbox-rows.mjs): the forced cells as the released guide's own fill.sh prints them over the translation 64a68aace151fee1… (all of the seat's roots in one cut). By AI agents, Wed Nov 11 2026. No macro, syntax, notation, axiom, sorry.
-/
import Derived.Test.YtapjaagigjfidaaDoorChecked
import GoSem.Claim
import GoSem.ClaimJoined
import GoSem.ClaimMapViews
import Derived.JoinedTies
import Derived.KernelRfl
namespace Go.Proofs.YtapjaagigjfidaaDoor
/- THE CELL 'sum', in the pinned program and in every row, IS THE sha256 OF THE DUMP (.gsa) THAT YtapjaagigjfidaaDoorProg.lean LOADS. Nothing in Lean hashes anything: it is a label: what it is worth is what the hold of that sum in a sandbox is worth. -/
noncomputable def Tryd.pinned : Pinned := { name := "ytapjaagigjfidaadoor", sum := "64a68aace151fee17f8bc6637772e914c6912daef6bf9e30fd6595033b582091", checked := Tryd.checked }
namespace Rows
def none {H : Type} : Left H := { results := [], args := [] }

/- WHAT THE LISTED PACKAGE-LEVEL VARIABLES READ AS WHEN THE CALL BEGINS. Each datum BY PROGRAM (the guide's laid-datum.mjs) off the statement by which the dump's own 'gosem.cut.vars' lays the variable. In a bare row this is a premise. The card (YtapjaagigjfidaaDoorCards.lean) ties it to the program's text. -/
def laid_downpour_digest_first {H : Type} : DataW H := .agg [.lit (.int .u32 1779033703), .lit (.int .u32 3144134277), .lit (.int .u32 1013904242), .lit (.int .u32 2773480762), .lit (.int .u32 1359893119), .lit (.int .u32 2600822924), .lit (.int .u32 528734635), .lit (.int .u32 1541459225)]
def laid_downpour_digest_constants {H : Type} : DataW H := .agg [.lit (.int .u32 1116352408), .lit (.int .u32 1899447441), .lit (.int .u32 3049323471), .lit (.int .u32 3921009573), .lit (.int .u32 961987163), .lit (.int .u32 1508970993), .lit (.int .u32 2453635748), .lit (.int .u32 2870763221), .lit (.int .u32 3624381080), .lit (.int .u32 310598401), .lit (.int .u32 607225278), .lit (.int .u32 1426881987), .lit (.int .u32 1925078388), .lit (.int .u32 2162078206), .lit (.int .u32 2614888103), .lit (.int .u32 3248222580), .lit (.int .u32 3835390401), .lit (.int .u32 4022224774), .lit (.int .u32 264347078), .lit (.int .u32 604807628), .lit (.int .u32 770255983), .lit (.int .u32 1249150122), .lit (.int .u32 1555081692), .lit (.int .u32 1996064986), .lit (.int .u32 2554220882), .lit (.int .u32 2821834349), .lit (.int .u32 2952996808), .lit (.int .u32 3210313671), .lit (.int .u32 3336571891), .lit (.int .u32 3584528711), .lit (.int .u32 113926993), .lit (.int .u32 338241895), .lit (.int .u32 666307205), .lit (.int .u32 773529912), .lit (.int .u32 1294757372), .lit (.int .u32 1396182291), .lit (.int .u32 1695183700), .lit (.int .u32 1986661051), .lit (.int .u32 2177026350), .lit (.int .u32 2456956037), .lit (.int .u32 2730485921), .lit (.int .u32 2820302411), .lit (.int .u32 3259730800), .lit (.int .u32 3345764771), .lit (.int .u32 3516065817), .lit (.int .u32 3600352804), .lit (.int .u32 4094571909), .lit (.int .u32 275423344), .lit (.int .u32 430227734), .lit (.int .u32 506948616), .lit (.int .u32 659060556), .lit (.int .u32 883997877), .lit (.int .u32 958139571), .lit (.int .u32 1322822218), .lit (.int .u32 1537002063), .lit (.int .u32 1747873779), .lit (.int .u32 1955562222), .lit (.int .u32 2024104815), .lit (.int .u32 2227730452), .lit (.int .u32 2361852424), .lit (.int .u32 2428436474), .lit (.int .u32 2756734187), .lit (.int .u32 3204031479), .lit (.int .u32 3329325298)]

/-- 'downpourlaw2.DigestForms': WHATEVER THE INPUT: true; the input reads as it did. -/
def digestFormsSpec : ChangeSpec := { name := "digestForms", fn := fun _ => fun
  | [d] => { results := [.lit (.bool true)], args := [d] }
  | _ => none }
def digestFormsRow : OpenClaim := { program := "ytapjaagigjfidaadoor", sum := "64a68aace151fee17f8bc6637772e914c6912daef6bf9e30fd6595033b582091", func := "downpour/downpourlaw2.DigestForms", spec := "digestForms", named := ["downpour/digest.first", "downpour/digest.constants"], apart := false, laid := [("downpour/digest.first", laid_downpour_digest_first), ("downpour/digest.constants", laid_downpour_digest_constants)] }
def DigestFormsSaid : Prop := digestFormsRow.holds Tryd.pinned (OpenSpec.ofChange digestFormsSpec)

/-- ITS FALSE NEIGHBOUR: 'it returns false'. Refute it at one input. -/
def digestFormsWrong : ChangeSpec := { name := "digestForms", fn := fun _ => fun
  | [d] => { results := [.lit (.bool false)], args := [d] }
  | _ => none }
def DigestFormsWrongFalsely : Prop := digestFormsRow.holds Tryd.pinned (OpenSpec.ofChange digestFormsWrong)

/-- 'downpourlaw2.DigestCuts': WHATEVER THE INPUT: true; the input reads as it did. -/
def digestCutsSpec : ChangeSpec := { name := "digestCuts", fn := fun _ => fun
  | [d1, d2] => { results := [.lit (.bool true)], args := [d1, d2] }
  | _ => none }
def digestCutsRow : OpenClaim := { program := "ytapjaagigjfidaadoor", sum := "64a68aace151fee17f8bc6637772e914c6912daef6bf9e30fd6595033b582091", func := "downpour/downpourlaw2.DigestCuts", spec := "digestCuts", named := ["downpour/digest.first", "downpour/digest.constants"], apart := false, laid := [("downpour/digest.first", laid_downpour_digest_first), ("downpour/digest.constants", laid_downpour_digest_constants)] }
def DigestCutsSaid : Prop := digestCutsRow.holds Tryd.pinned (OpenSpec.ofChange digestCutsSpec)

/-- ITS FALSE NEIGHBOUR: 'it returns false'. Refute it at one input. -/
def digestCutsWrong : ChangeSpec := { name := "digestCuts", fn := fun _ => fun
  | [d1, d2] => { results := [.lit (.bool false)], args := [d1, d2] }
  | _ => none }
def DigestCutsWrongFalsely : Prop := digestCutsRow.holds Tryd.pinned (OpenSpec.ofChange digestCutsWrong)

/-- 'downpourlaw2.DigestBorders': WHATEVER THE INPUT: true; the input reads as it did. -/
def digestBordersSpec : ChangeSpec := { name := "digestBorders", fn := fun _ => fun
  | [d1, d2] => { results := [.lit (.bool true)], args := [d1, d2] }
  | _ => none }
def digestBordersRow : OpenClaim := { program := "ytapjaagigjfidaadoor", sum := "64a68aace151fee17f8bc6637772e914c6912daef6bf9e30fd6595033b582091", func := "downpour/downpourlaw2.DigestBorders", spec := "digestBorders", named := ["downpour/digest.first", "downpour/digest.constants"], apart := false, laid := [("downpour/digest.first", laid_downpour_digest_first), ("downpour/digest.constants", laid_downpour_digest_constants)] }
def DigestBordersSaid : Prop := digestBordersRow.holds Tryd.pinned (OpenSpec.ofChange digestBordersSpec)

/-- ITS FALSE NEIGHBOUR: 'it returns false'. Refute it at one input. -/
def digestBordersWrong : ChangeSpec := { name := "digestBorders", fn := fun _ => fun
  | [d1, d2] => { results := [.lit (.bool false)], args := [d1, d2] }
  | _ => none }
def DigestBordersWrongFalsely : Prop := digestBordersRow.holds Tryd.pinned (OpenSpec.ofChange digestBordersWrong)

/-- 'downpourlaw2.DigestOnce': WHATEVER THE INPUT: true; the input reads as it did. -/
def digestOnceSpec : ChangeSpec := { name := "digestOnce", fn := fun _ => fun
  | [d1, d2] => { results := [.lit (.bool true)], args := [d1, d2] }
  | _ => none }
def digestOnceRow : OpenClaim := { program := "ytapjaagigjfidaadoor", sum := "64a68aace151fee17f8bc6637772e914c6912daef6bf9e30fd6595033b582091", func := "downpour/downpourlaw2.DigestOnce", spec := "digestOnce", named := ["downpour/digest.first", "downpour/digest.constants"], apart := false, laid := [("downpour/digest.first", laid_downpour_digest_first), ("downpour/digest.constants", laid_downpour_digest_constants)] }
def DigestOnceSaid : Prop := digestOnceRow.holds Tryd.pinned (OpenSpec.ofChange digestOnceSpec)

/-- ITS FALSE NEIGHBOUR: 'it returns false'. Refute it at one input. -/
def digestOnceWrong : ChangeSpec := { name := "digestOnce", fn := fun _ => fun
  | [d1, d2] => { results := [.lit (.bool false)], args := [d1, d2] }
  | _ => none }
def DigestOnceWrongFalsely : Prop := digestOnceRow.holds Tryd.pinned (OpenSpec.ofChange digestOnceWrong)

/-- 'downpourlaw2.DigestLong': WHATEVER THE INPUT: true; the input reads as it did. -/
def digestLongSpec : ChangeSpec := { name := "digestLong", fn := fun _ => fun
  | [d1, d2] => { results := [.lit (.bool true)], args := [d1, d2] }
  | _ => none }
def digestLongRow : OpenClaim := { program := "ytapjaagigjfidaadoor", sum := "64a68aace151fee17f8bc6637772e914c6912daef6bf9e30fd6595033b582091", func := "downpour/downpourlaw2.DigestLong", spec := "digestLong", named := ["downpour/digest.first", "downpour/digest.constants"], apart := false, laid := [("downpour/digest.first", laid_downpour_digest_first), ("downpour/digest.constants", laid_downpour_digest_constants)] }
def DigestLongSaid : Prop := digestLongRow.holds Tryd.pinned (OpenSpec.ofChange digestLongSpec)

/-- ITS FALSE NEIGHBOUR: 'it returns false'. Refute it at one input. -/
def digestLongWrong : ChangeSpec := { name := "digestLong", fn := fun _ => fun
  | [d1, d2] => { results := [.lit (.bool false)], args := [d1, d2] }
  | _ => none }
def DigestLongWrongFalsely : Prop := digestLongRow.holds Tryd.pinned (OpenSpec.ofChange digestLongWrong)

/-- 'downpourlaw3.MacForms': WHATEVER THE INPUT: true; the input reads as it did. -/
def macFormsSpec : ChangeSpec := { name := "macForms", fn := fun _ => fun
  | [d1, d2, d3] => { results := [.lit (.bool true)], args := [d1, d2, d3] }
  | _ => none }
def macFormsRow : OpenClaim := { program := "ytapjaagigjfidaadoor", sum := "64a68aace151fee17f8bc6637772e914c6912daef6bf9e30fd6595033b582091", func := "downpour/downpourlaw3.MacForms", spec := "macForms", named := ["downpour/digest.first", "downpour/digest.constants"], apart := false, laid := [("downpour/digest.first", laid_downpour_digest_first), ("downpour/digest.constants", laid_downpour_digest_constants)] }
def MacFormsSaid : Prop := macFormsRow.holds Tryd.pinned (OpenSpec.ofChange macFormsSpec)

/-- ITS FALSE NEIGHBOUR: 'it returns false'. Refute it at one input. -/
def macFormsWrong : ChangeSpec := { name := "macForms", fn := fun _ => fun
  | [d1, d2, d3] => { results := [.lit (.bool false)], args := [d1, d2, d3] }
  | _ => none }
def MacFormsWrongFalsely : Prop := macFormsRow.holds Tryd.pinned (OpenSpec.ofChange macFormsWrong)

/-- 'downpourlaw3.MacRight': WHATEVER THE INPUT: true; the input reads as it did. -/
def macRightSpec : ChangeSpec := { name := "macRight", fn := fun _ => fun
  | [d1, d2, d3, d4] => { results := [.lit (.bool true)], args := [d1, d2, d3, d4] }
  | _ => none }
def macRightRow : OpenClaim := { program := "ytapjaagigjfidaadoor", sum := "64a68aace151fee17f8bc6637772e914c6912daef6bf9e30fd6595033b582091", func := "downpour/downpourlaw3.MacRight", spec := "macRight", named := ["downpour/digest.first", "downpour/digest.constants"], apart := false, laid := [("downpour/digest.first", laid_downpour_digest_first), ("downpour/digest.constants", laid_downpour_digest_constants)] }
def MacRightSaid : Prop := macRightRow.holds Tryd.pinned (OpenSpec.ofChange macRightSpec)

/-- ITS FALSE NEIGHBOUR: 'it returns false'. Refute it at one input. -/
def macRightWrong : ChangeSpec := { name := "macRight", fn := fun _ => fun
  | [d1, d2, d3, d4] => { results := [.lit (.bool false)], args := [d1, d2, d3, d4] }
  | _ => none }
def MacRightWrongFalsely : Prop := macRightRow.holds Tryd.pinned (OpenSpec.ofChange macRightWrong)

/-- 'downpourlaw3.MacKeys': WHATEVER THE INPUT: true; the input reads as it did. -/
def macKeysSpec : ChangeSpec := { name := "macKeys", fn := fun _ => fun
  | [d1, d2, d3] => { results := [.lit (.bool true)], args := [d1, d2, d3] }
  | _ => none }
def macKeysRow : OpenClaim := { program := "ytapjaagigjfidaadoor", sum := "64a68aace151fee17f8bc6637772e914c6912daef6bf9e30fd6595033b582091", func := "downpour/downpourlaw3.MacKeys", spec := "macKeys", named := ["downpour/digest.first", "downpour/digest.constants"], apart := false, laid := [("downpour/digest.first", laid_downpour_digest_first), ("downpour/digest.constants", laid_downpour_digest_constants)] }
def MacKeysSaid : Prop := macKeysRow.holds Tryd.pinned (OpenSpec.ofChange macKeysSpec)

/-- ITS FALSE NEIGHBOUR: 'it returns false'. Refute it at one input. -/
def macKeysWrong : ChangeSpec := { name := "macKeys", fn := fun _ => fun
  | [d1, d2, d3] => { results := [.lit (.bool false)], args := [d1, d2, d3] }
  | _ => none }
def MacKeysWrongFalsely : Prop := macKeysRow.holds Tryd.pinned (OpenSpec.ofChange macKeysWrong)

/-- 'downpourlaw3.MacLong': WHATEVER THE INPUT: true; the input reads as it did. -/
def macLongSpec : ChangeSpec := { name := "macLong", fn := fun _ => fun
  | [d1, d2] => { results := [.lit (.bool true)], args := [d1, d2] }
  | _ => none }
def macLongRow : OpenClaim := { program := "ytapjaagigjfidaadoor", sum := "64a68aace151fee17f8bc6637772e914c6912daef6bf9e30fd6595033b582091", func := "downpour/downpourlaw3.MacLong", spec := "macLong", named := ["downpour/digest.first", "downpour/digest.constants"], apart := false, laid := [("downpour/digest.first", laid_downpour_digest_first), ("downpour/digest.constants", laid_downpour_digest_constants)] }
def MacLongSaid : Prop := macLongRow.holds Tryd.pinned (OpenSpec.ofChange macLongSpec)

/-- ITS FALSE NEIGHBOUR: 'it returns false'. Refute it at one input. -/
def macLongWrong : ChangeSpec := { name := "macLong", fn := fun _ => fun
  | [d1, d2] => { results := [.lit (.bool false)], args := [d1, d2] }
  | _ => none }
def MacLongWrongFalsely : Prop := macLongRow.holds Tryd.pinned (OpenSpec.ofChange macLongWrong)

/-- 'downpourlaw3.MacInner': WHATEVER THE INPUT: true; the input reads as it did. -/
def macInnerSpec : ChangeSpec := { name := "macInner", fn := fun _ => fun
  | [d1, d2] => { results := [.lit (.bool true)], args := [d1, d2] }
  | _ => none }
def macInnerRow : OpenClaim := { program := "ytapjaagigjfidaadoor", sum := "64a68aace151fee17f8bc6637772e914c6912daef6bf9e30fd6595033b582091", func := "downpour/downpourlaw3.MacInner", spec := "macInner", named := ["downpour/digest.first", "downpour/digest.constants"], apart := false, laid := [("downpour/digest.first", laid_downpour_digest_first), ("downpour/digest.constants", laid_downpour_digest_constants)] }
def MacInnerSaid : Prop := macInnerRow.holds Tryd.pinned (OpenSpec.ofChange macInnerSpec)

/-- ITS FALSE NEIGHBOUR: 'it returns false'. Refute it at one input. -/
def macInnerWrong : ChangeSpec := { name := "macInner", fn := fun _ => fun
  | [d1, d2] => { results := [.lit (.bool false)], args := [d1, d2] }
  | _ => none }
def MacInnerWrongFalsely : Prop := macInnerRow.holds Tryd.pinned (OpenSpec.ofChange macInnerWrong)

/- THE SECOND FORM. 'bulk': how many values and letters a reading holds, each counted each time it is reached (what is shared counts as often as it is met; a slice's spare places count too). A statement '..UptoSaid' is the law's where the arguments, and the package variables that the reading takes, are together of bulk at most 1048576: NARROWER than '..Said'. Prove '..Said' where nothing that the law and all that it calls make is longer than what came in: it says more and counts as full. Else prove '..UptoSaid'. A law counts once. -/
mutual
def uptoBulk {H : Type} : DataW H → Nat
  | .lit (.string bytes) => bytes.length + 1
  | .lit _ => 1
  | .nil => 1
  | .ptr d => uptoBulk d + 1
  | .slice elems spare => uptoBulkAll elems + uptoBulkAll spare + 1
  | .agg parts => uptoBulkAll parts + 1
  | .iface _ d => uptoBulk d + 1
  | .map entries => uptoBulkEntries entries + 1
  | .held _ => 1
def uptoBulkAll {H : Type} : List (DataW H) → Nat
  | [] => 0
  | d :: r => uptoBulk d + uptoBulkAll r
def uptoBulkEntries {H : Type} : List (Lit × DataW H) → Nat
  | [] => 0
  | x :: r => uptoBulkEntry x + uptoBulkEntries r
def uptoBulkEntry {H : Type} : Lit × DataW H → Nat
  | (.string bytes, d) => bytes.length + uptoBulk d + 1
  | (_, d) => uptoBulk d + 1
 end
def uptoSmall : (H : Type) → List (DataW H) → Bool := fun _ ds => decide (uptoBulkAll ds ≤ 1048576)
def OpenSpec.upto (s : _root_.Go.ChangeSpec) : _root_.Go.OpenSpec := { _root_.Go.OpenSpec.ofChange s with cond := some uptoSmall }

/-- 'downpourlaw2.DigestForms', WHERE WHAT IT READS IS OF BULK AT MOST 1048576: true; the input reads as it did. -/
def digestFormsUptoRow : OpenClaim := { program := "ytapjaagigjfidaadoor", sum := "64a68aace151fee17f8bc6637772e914c6912daef6bf9e30fd6595033b582091", func := "downpour/downpourlaw2.DigestForms", spec := "digestForms", named := ["downpour/digest.first", "downpour/digest.constants"], apart := false, laid := [("downpour/digest.first", laid_downpour_digest_first), ("downpour/digest.constants", laid_downpour_digest_constants)], narrowed := true }
def DigestFormsUptoSaid : Prop := digestFormsUptoRow.holds Tryd.pinned (OpenSpec.upto digestFormsSpec)

/-- 'downpourlaw2.DigestCuts', WHERE WHAT IT READS IS OF BULK AT MOST 1048576: true; the input reads as it did. -/
def digestCutsUptoRow : OpenClaim := { program := "ytapjaagigjfidaadoor", sum := "64a68aace151fee17f8bc6637772e914c6912daef6bf9e30fd6595033b582091", func := "downpour/downpourlaw2.DigestCuts", spec := "digestCuts", named := ["downpour/digest.first", "downpour/digest.constants"], apart := false, laid := [("downpour/digest.first", laid_downpour_digest_first), ("downpour/digest.constants", laid_downpour_digest_constants)], narrowed := true }
def DigestCutsUptoSaid : Prop := digestCutsUptoRow.holds Tryd.pinned (OpenSpec.upto digestCutsSpec)

/-- 'downpourlaw2.DigestBorders', WHERE WHAT IT READS IS OF BULK AT MOST 1048576: true; the input reads as it did. -/
def digestBordersUptoRow : OpenClaim := { program := "ytapjaagigjfidaadoor", sum := "64a68aace151fee17f8bc6637772e914c6912daef6bf9e30fd6595033b582091", func := "downpour/downpourlaw2.DigestBorders", spec := "digestBorders", named := ["downpour/digest.first", "downpour/digest.constants"], apart := false, laid := [("downpour/digest.first", laid_downpour_digest_first), ("downpour/digest.constants", laid_downpour_digest_constants)], narrowed := true }
def DigestBordersUptoSaid : Prop := digestBordersUptoRow.holds Tryd.pinned (OpenSpec.upto digestBordersSpec)

/-- 'downpourlaw2.DigestOnce', WHERE WHAT IT READS IS OF BULK AT MOST 1048576: true; the input reads as it did. -/
def digestOnceUptoRow : OpenClaim := { program := "ytapjaagigjfidaadoor", sum := "64a68aace151fee17f8bc6637772e914c6912daef6bf9e30fd6595033b582091", func := "downpour/downpourlaw2.DigestOnce", spec := "digestOnce", named := ["downpour/digest.first", "downpour/digest.constants"], apart := false, laid := [("downpour/digest.first", laid_downpour_digest_first), ("downpour/digest.constants", laid_downpour_digest_constants)], narrowed := true }
def DigestOnceUptoSaid : Prop := digestOnceUptoRow.holds Tryd.pinned (OpenSpec.upto digestOnceSpec)

/-- 'downpourlaw2.DigestLong', WHERE WHAT IT READS IS OF BULK AT MOST 1048576: true; the input reads as it did. -/
def digestLongUptoRow : OpenClaim := { program := "ytapjaagigjfidaadoor", sum := "64a68aace151fee17f8bc6637772e914c6912daef6bf9e30fd6595033b582091", func := "downpour/downpourlaw2.DigestLong", spec := "digestLong", named := ["downpour/digest.first", "downpour/digest.constants"], apart := false, laid := [("downpour/digest.first", laid_downpour_digest_first), ("downpour/digest.constants", laid_downpour_digest_constants)], narrowed := true }
def DigestLongUptoSaid : Prop := digestLongUptoRow.holds Tryd.pinned (OpenSpec.upto digestLongSpec)

/-- 'downpourlaw3.MacForms', WHERE WHAT IT READS IS OF BULK AT MOST 1048576: true; the input reads as it did. -/
def macFormsUptoRow : OpenClaim := { program := "ytapjaagigjfidaadoor", sum := "64a68aace151fee17f8bc6637772e914c6912daef6bf9e30fd6595033b582091", func := "downpour/downpourlaw3.MacForms", spec := "macForms", named := ["downpour/digest.first", "downpour/digest.constants"], apart := false, laid := [("downpour/digest.first", laid_downpour_digest_first), ("downpour/digest.constants", laid_downpour_digest_constants)], narrowed := true }
def MacFormsUptoSaid : Prop := macFormsUptoRow.holds Tryd.pinned (OpenSpec.upto macFormsSpec)

/-- 'downpourlaw3.MacRight', WHERE WHAT IT READS IS OF BULK AT MOST 1048576: true; the input reads as it did. -/
def macRightUptoRow : OpenClaim := { program := "ytapjaagigjfidaadoor", sum := "64a68aace151fee17f8bc6637772e914c6912daef6bf9e30fd6595033b582091", func := "downpour/downpourlaw3.MacRight", spec := "macRight", named := ["downpour/digest.first", "downpour/digest.constants"], apart := false, laid := [("downpour/digest.first", laid_downpour_digest_first), ("downpour/digest.constants", laid_downpour_digest_constants)], narrowed := true }
def MacRightUptoSaid : Prop := macRightUptoRow.holds Tryd.pinned (OpenSpec.upto macRightSpec)

/-- 'downpourlaw3.MacKeys', WHERE WHAT IT READS IS OF BULK AT MOST 1048576: true; the input reads as it did. -/
def macKeysUptoRow : OpenClaim := { program := "ytapjaagigjfidaadoor", sum := "64a68aace151fee17f8bc6637772e914c6912daef6bf9e30fd6595033b582091", func := "downpour/downpourlaw3.MacKeys", spec := "macKeys", named := ["downpour/digest.first", "downpour/digest.constants"], apart := false, laid := [("downpour/digest.first", laid_downpour_digest_first), ("downpour/digest.constants", laid_downpour_digest_constants)], narrowed := true }
def MacKeysUptoSaid : Prop := macKeysUptoRow.holds Tryd.pinned (OpenSpec.upto macKeysSpec)

/-- 'downpourlaw3.MacLong', WHERE WHAT IT READS IS OF BULK AT MOST 1048576: true; the input reads as it did. -/
def macLongUptoRow : OpenClaim := { program := "ytapjaagigjfidaadoor", sum := "64a68aace151fee17f8bc6637772e914c6912daef6bf9e30fd6595033b582091", func := "downpour/downpourlaw3.MacLong", spec := "macLong", named := ["downpour/digest.first", "downpour/digest.constants"], apart := false, laid := [("downpour/digest.first", laid_downpour_digest_first), ("downpour/digest.constants", laid_downpour_digest_constants)], narrowed := true }
def MacLongUptoSaid : Prop := macLongUptoRow.holds Tryd.pinned (OpenSpec.upto macLongSpec)

/-- 'downpourlaw3.MacInner', WHERE WHAT IT READS IS OF BULK AT MOST 1048576: true; the input reads as it did. -/
def macInnerUptoRow : OpenClaim := { program := "ytapjaagigjfidaadoor", sum := "64a68aace151fee17f8bc6637772e914c6912daef6bf9e30fd6595033b582091", func := "downpour/downpourlaw3.MacInner", spec := "macInner", named := ["downpour/digest.first", "downpour/digest.constants"], apart := false, laid := [("downpour/digest.first", laid_downpour_digest_first), ("downpour/digest.constants", laid_downpour_digest_constants)], narrowed := true }
def MacInnerUptoSaid : Prop := macInnerUptoRow.holds Tryd.pinned (OpenSpec.upto macInnerSpec)

end Rows
end Go.Proofs.YtapjaagigjfidaaDoor
