/-
  DERIVED. GIVEN WITH THE SEED: THE CARDS: each row of YtapjaagigjfidaaDoorRows.lean that lists a variable, with what it lists TIED to the program's text (the seventh form; the later family's looks); each row that meets fmt, with fmt's text TOLD by the authors' own Lean function (tested against real Go, not proved from fmt's source: count such statements apart). THE CARD IS WHAT COUNTS. Prove the row's statement (the work); the ties are given (YtapjaagigjfidaaDoorTie.lean); close each card by the builder's one call (the guide's Derived/Test/ToyasCard.lean, 'card_holds'). Laid BY PROGRAM, IN A SANDBOX (cutbox-door.mjs). By AI agents, Wed Nov 11 2026. No macro, syntax, notation, axiom, sorry.
-/
import Derived.Test.YtapjaagigjfidaaDoorRows
import GoSem.ClaimSeven
namespace Go.Proofs.YtapjaagigjfidaaDoor
namespace Rows

/-- THE TIED CARD OF 'downpourlaw2.DigestForms'. -/
def digestFormsCard : Claim7 := { stood := { row := digestFormsRow, standIns := [], harness := (true, "edded0db9a9580f830b839f040b4390df487e85e17764375369ffc831c7dca7f"), looks := false }, kinds := [], alts := [], laidByText := true, laidKinds := [.data, .data], laidTests := true, laidLooks := .later }
def DigestFormsCardSaid : Prop := Claim7.holds Tryd.pinned (.plain (OpenSpec.ofChange digestFormsSpec)) digestFormsCard

/-- THE TIED CARD OF 'downpourlaw2.DigestCuts'. -/
def digestCutsCard : Claim7 := { stood := { row := digestCutsRow, standIns := [], harness := (true, "edded0db9a9580f830b839f040b4390df487e85e17764375369ffc831c7dca7f"), looks := false }, kinds := [], alts := [], laidByText := true, laidKinds := [.data, .data], laidTests := true, laidLooks := .later }
def DigestCutsCardSaid : Prop := Claim7.holds Tryd.pinned (.plain (OpenSpec.ofChange digestCutsSpec)) digestCutsCard

/-- THE TIED CARD OF 'downpourlaw2.DigestBorders'. -/
def digestBordersCard : Claim7 := { stood := { row := digestBordersRow, standIns := [], harness := (true, "edded0db9a9580f830b839f040b4390df487e85e17764375369ffc831c7dca7f"), looks := false }, kinds := [], alts := [], laidByText := true, laidKinds := [.data, .data], laidTests := true, laidLooks := .later }
def DigestBordersCardSaid : Prop := Claim7.holds Tryd.pinned (.plain (OpenSpec.ofChange digestBordersSpec)) digestBordersCard

/-- THE TIED CARD OF 'downpourlaw2.DigestOnce'. -/
def digestOnceCard : Claim7 := { stood := { row := digestOnceRow, standIns := [], harness := (true, "edded0db9a9580f830b839f040b4390df487e85e17764375369ffc831c7dca7f"), looks := false }, kinds := [], alts := [], laidByText := true, laidKinds := [.data, .data], laidTests := true, laidLooks := .later }
def DigestOnceCardSaid : Prop := Claim7.holds Tryd.pinned (.plain (OpenSpec.ofChange digestOnceSpec)) digestOnceCard

/-- THE TIED CARD OF 'downpourlaw2.DigestLong'. -/
def digestLongCard : Claim7 := { stood := { row := digestLongRow, standIns := [], harness := (true, "edded0db9a9580f830b839f040b4390df487e85e17764375369ffc831c7dca7f"), looks := false }, kinds := [], alts := [], laidByText := true, laidKinds := [.data, .data], laidTests := true, laidLooks := .later }
def DigestLongCardSaid : Prop := Claim7.holds Tryd.pinned (.plain (OpenSpec.ofChange digestLongSpec)) digestLongCard

/-- THE TIED CARD OF 'downpourlaw3.MacForms'. -/
def macFormsCard : Claim7 := { stood := { row := macFormsRow, standIns := [], harness := (true, "edded0db9a9580f830b839f040b4390df487e85e17764375369ffc831c7dca7f"), looks := false }, kinds := [], alts := [], laidByText := true, laidKinds := [.data, .data], laidTests := true, laidLooks := .later }
def MacFormsCardSaid : Prop := Claim7.holds Tryd.pinned (.plain (OpenSpec.ofChange macFormsSpec)) macFormsCard

/-- THE TIED CARD OF 'downpourlaw3.MacRight'. -/
def macRightCard : Claim7 := { stood := { row := macRightRow, standIns := [], harness := (true, "edded0db9a9580f830b839f040b4390df487e85e17764375369ffc831c7dca7f"), looks := false }, kinds := [], alts := [], laidByText := true, laidKinds := [.data, .data], laidTests := true, laidLooks := .later }
def MacRightCardSaid : Prop := Claim7.holds Tryd.pinned (.plain (OpenSpec.ofChange macRightSpec)) macRightCard

/-- THE TIED CARD OF 'downpourlaw3.MacKeys'. -/
def macKeysCard : Claim7 := { stood := { row := macKeysRow, standIns := [], harness := (true, "edded0db9a9580f830b839f040b4390df487e85e17764375369ffc831c7dca7f"), looks := false }, kinds := [], alts := [], laidByText := true, laidKinds := [.data, .data], laidTests := true, laidLooks := .later }
def MacKeysCardSaid : Prop := Claim7.holds Tryd.pinned (.plain (OpenSpec.ofChange macKeysSpec)) macKeysCard

/-- THE TIED CARD OF 'downpourlaw3.MacLong'. -/
def macLongCard : Claim7 := { stood := { row := macLongRow, standIns := [], harness := (true, "edded0db9a9580f830b839f040b4390df487e85e17764375369ffc831c7dca7f"), looks := false }, kinds := [], alts := [], laidByText := true, laidKinds := [.data, .data], laidTests := true, laidLooks := .later }
def MacLongCardSaid : Prop := Claim7.holds Tryd.pinned (.plain (OpenSpec.ofChange macLongSpec)) macLongCard

/-- THE TIED CARD OF 'downpourlaw3.MacInner'. -/
def macInnerCard : Claim7 := { stood := { row := macInnerRow, standIns := [], harness := (true, "edded0db9a9580f830b839f040b4390df487e85e17764375369ffc831c7dca7f"), looks := false }, kinds := [], alts := [], laidByText := true, laidKinds := [.data, .data], laidTests := true, laidLooks := .later }
def MacInnerCardSaid : Prop := Claim7.holds Tryd.pinned (.plain (OpenSpec.ofChange macInnerSpec)) macInnerCard

/-- THE SECOND FORM's CARD OF 'downpourlaw2.DigestForms'. -/
def digestFormsUptoCard : Claim7 := { stood := { row := digestFormsUptoRow, standIns := [], harness := (true, "edded0db9a9580f830b839f040b4390df487e85e17764375369ffc831c7dca7f"), looks := false }, kinds := [], alts := [], laidByText := true, laidKinds := [.data, .data], laidTests := true, laidLooks := .later }
def DigestFormsUptoCardSaid : Prop := Claim7.holds Tryd.pinned (.plain (OpenSpec.upto digestFormsSpec)) digestFormsUptoCard

/-- THE SECOND FORM's CARD OF 'downpourlaw2.DigestCuts'. -/
def digestCutsUptoCard : Claim7 := { stood := { row := digestCutsUptoRow, standIns := [], harness := (true, "edded0db9a9580f830b839f040b4390df487e85e17764375369ffc831c7dca7f"), looks := false }, kinds := [], alts := [], laidByText := true, laidKinds := [.data, .data], laidTests := true, laidLooks := .later }
def DigestCutsUptoCardSaid : Prop := Claim7.holds Tryd.pinned (.plain (OpenSpec.upto digestCutsSpec)) digestCutsUptoCard

/-- THE SECOND FORM's CARD OF 'downpourlaw2.DigestBorders'. -/
def digestBordersUptoCard : Claim7 := { stood := { row := digestBordersUptoRow, standIns := [], harness := (true, "edded0db9a9580f830b839f040b4390df487e85e17764375369ffc831c7dca7f"), looks := false }, kinds := [], alts := [], laidByText := true, laidKinds := [.data, .data], laidTests := true, laidLooks := .later }
def DigestBordersUptoCardSaid : Prop := Claim7.holds Tryd.pinned (.plain (OpenSpec.upto digestBordersSpec)) digestBordersUptoCard

/-- THE SECOND FORM's CARD OF 'downpourlaw2.DigestOnce'. -/
def digestOnceUptoCard : Claim7 := { stood := { row := digestOnceUptoRow, standIns := [], harness := (true, "edded0db9a9580f830b839f040b4390df487e85e17764375369ffc831c7dca7f"), looks := false }, kinds := [], alts := [], laidByText := true, laidKinds := [.data, .data], laidTests := true, laidLooks := .later }
def DigestOnceUptoCardSaid : Prop := Claim7.holds Tryd.pinned (.plain (OpenSpec.upto digestOnceSpec)) digestOnceUptoCard

/-- THE SECOND FORM's CARD OF 'downpourlaw2.DigestLong'. -/
def digestLongUptoCard : Claim7 := { stood := { row := digestLongUptoRow, standIns := [], harness := (true, "edded0db9a9580f830b839f040b4390df487e85e17764375369ffc831c7dca7f"), looks := false }, kinds := [], alts := [], laidByText := true, laidKinds := [.data, .data], laidTests := true, laidLooks := .later }
def DigestLongUptoCardSaid : Prop := Claim7.holds Tryd.pinned (.plain (OpenSpec.upto digestLongSpec)) digestLongUptoCard

/-- THE SECOND FORM's CARD OF 'downpourlaw3.MacForms'. -/
def macFormsUptoCard : Claim7 := { stood := { row := macFormsUptoRow, standIns := [], harness := (true, "edded0db9a9580f830b839f040b4390df487e85e17764375369ffc831c7dca7f"), looks := false }, kinds := [], alts := [], laidByText := true, laidKinds := [.data, .data], laidTests := true, laidLooks := .later }
def MacFormsUptoCardSaid : Prop := Claim7.holds Tryd.pinned (.plain (OpenSpec.upto macFormsSpec)) macFormsUptoCard

/-- THE SECOND FORM's CARD OF 'downpourlaw3.MacRight'. -/
def macRightUptoCard : Claim7 := { stood := { row := macRightUptoRow, standIns := [], harness := (true, "edded0db9a9580f830b839f040b4390df487e85e17764375369ffc831c7dca7f"), looks := false }, kinds := [], alts := [], laidByText := true, laidKinds := [.data, .data], laidTests := true, laidLooks := .later }
def MacRightUptoCardSaid : Prop := Claim7.holds Tryd.pinned (.plain (OpenSpec.upto macRightSpec)) macRightUptoCard

/-- THE SECOND FORM's CARD OF 'downpourlaw3.MacKeys'. -/
def macKeysUptoCard : Claim7 := { stood := { row := macKeysUptoRow, standIns := [], harness := (true, "edded0db9a9580f830b839f040b4390df487e85e17764375369ffc831c7dca7f"), looks := false }, kinds := [], alts := [], laidByText := true, laidKinds := [.data, .data], laidTests := true, laidLooks := .later }
def MacKeysUptoCardSaid : Prop := Claim7.holds Tryd.pinned (.plain (OpenSpec.upto macKeysSpec)) macKeysUptoCard

/-- THE SECOND FORM's CARD OF 'downpourlaw3.MacLong'. -/
def macLongUptoCard : Claim7 := { stood := { row := macLongUptoRow, standIns := [], harness := (true, "edded0db9a9580f830b839f040b4390df487e85e17764375369ffc831c7dca7f"), looks := false }, kinds := [], alts := [], laidByText := true, laidKinds := [.data, .data], laidTests := true, laidLooks := .later }
def MacLongUptoCardSaid : Prop := Claim7.holds Tryd.pinned (.plain (OpenSpec.upto macLongSpec)) macLongUptoCard

/-- THE SECOND FORM's CARD OF 'downpourlaw3.MacInner'. -/
def macInnerUptoCard : Claim7 := { stood := { row := macInnerUptoRow, standIns := [], harness := (true, "edded0db9a9580f830b839f040b4390df487e85e17764375369ffc831c7dca7f"), looks := false }, kinds := [], alts := [], laidByText := true, laidKinds := [.data, .data], laidTests := true, laidLooks := .later }
def MacInnerUptoCardSaid : Prop := Claim7.holds Tryd.pinned (.plain (OpenSpec.upto macInnerSpec)) macInnerUptoCard
end Rows
end Go.Proofs.YtapjaagigjfidaaDoor
