/-
  DERIVED. GIVEN WITH THE SEED: THE CARDS: each row of YtlpmammagebkfaaDoorRows.lean that lists a variable, with what it lists TIED to the program's text (the seventh form; the later family's looks); each row that meets fmt, with fmt's text TOLD by the authors' own Lean function (tested against real Go, not proved from fmt's source: count such statements apart). THE CARD IS WHAT COUNTS. Prove the row's statement (the work); the ties are given (YtlpmammagebkfaaDoorTie.lean); close each card by the builder's one call (the guide's Derived/Test/ToyasCard.lean, 'card_holds'). Laid BY PROGRAM, IN A SANDBOX (cutbox-door.mjs). By AI agents, Wed Nov 11 2026. No macro, syntax, notation, axiom, sorry.
-/
import Derived.Test.YtlpmammagebkfaaDoorRows
import GoSem.ClaimSeven
namespace Go.Proofs.YtlpmammagebkfaaDoor
namespace Rows

/-- THE TIED CARD OF 'downpourlaw11.CodeSums'. -/
def codeSumsCard : Claim7 := { stood := { row := codeSumsRow, standIns := [], harness := (true, "09f3955e2506db9d694d53cd88677c4dac7498df58084f312a9763c90cd309ff"), looks := false }, kinds := [], alts := [], laidByText := true, laidKinds := [.data], laidTests := true, laidLooks := .later }
def CodeSumsCardSaid : Prop := Claim7.holds Tryd.pinned (.plain (OpenSpec.ofChange codeSumsSpec)) codeSumsCard

/-- THE TIED CARD OF 'downpourlaw11.CodeNil'. -/
def codeNilCard : Claim7 := { stood := { row := codeNilRow, standIns := [], harness := (true, "09f3955e2506db9d694d53cd88677c4dac7498df58084f312a9763c90cd309ff"), looks := false }, kinds := [], alts := [], laidByText := true, laidKinds := [.data], laidTests := true, laidLooks := .later }
def CodeNilCardSaid : Prop := Claim7.holds Tryd.pinned (.plain (OpenSpec.ofChange codeNilSpec)) codeNilCard

/-- THE TIED CARD OF 'downpourlaw11.CodeParity'. -/
def codeParityCard : Claim7 := { stood := { row := codeParityRow, standIns := [], harness := (true, "09f3955e2506db9d694d53cd88677c4dac7498df58084f312a9763c90cd309ff"), looks := false }, kinds := [], alts := [], laidByText := true, laidKinds := [.data], laidTests := true, laidLooks := .later }
def CodeParityCardSaid : Prop := Claim7.holds Tryd.pinned (.plain (OpenSpec.ofChange codeParitySpec)) codeParityCard

/-- THE TIED CARD OF 'downpourlaw11.CodeImages'. -/
def codeImagesCard : Claim7 := { stood := { row := codeImagesRow, standIns := [], harness := (true, "09f3955e2506db9d694d53cd88677c4dac7498df58084f312a9763c90cd309ff"), looks := false }, kinds := [], alts := [], laidByText := true, laidKinds := [.data], laidTests := true, laidLooks := .later }
def CodeImagesCardSaid : Prop := Claim7.holds Tryd.pinned (.plain (OpenSpec.ofChange codeImagesSpec)) codeImagesCard

/-- THE SECOND FORM's CARD OF 'downpourlaw11.CodeSums'. -/
def codeSumsUptoCard : Claim7 := { stood := { row := codeSumsUptoRow, standIns := [], harness := (true, "09f3955e2506db9d694d53cd88677c4dac7498df58084f312a9763c90cd309ff"), looks := false }, kinds := [], alts := [], laidByText := true, laidKinds := [.data], laidTests := true, laidLooks := .later }
def CodeSumsUptoCardSaid : Prop := Claim7.holds Tryd.pinned (.plain (OpenSpec.upto codeSumsSpec)) codeSumsUptoCard

/-- THE SECOND FORM's CARD OF 'downpourlaw11.CodeNil'. -/
def codeNilUptoCard : Claim7 := { stood := { row := codeNilUptoRow, standIns := [], harness := (true, "09f3955e2506db9d694d53cd88677c4dac7498df58084f312a9763c90cd309ff"), looks := false }, kinds := [], alts := [], laidByText := true, laidKinds := [.data], laidTests := true, laidLooks := .later }
def CodeNilUptoCardSaid : Prop := Claim7.holds Tryd.pinned (.plain (OpenSpec.upto codeNilSpec)) codeNilUptoCard

/-- THE SECOND FORM's CARD OF 'downpourlaw11.CodeParity'. -/
def codeParityUptoCard : Claim7 := { stood := { row := codeParityUptoRow, standIns := [], harness := (true, "09f3955e2506db9d694d53cd88677c4dac7498df58084f312a9763c90cd309ff"), looks := false }, kinds := [], alts := [], laidByText := true, laidKinds := [.data], laidTests := true, laidLooks := .later }
def CodeParityUptoCardSaid : Prop := Claim7.holds Tryd.pinned (.plain (OpenSpec.upto codeParitySpec)) codeParityUptoCard

/-- THE SECOND FORM's CARD OF 'downpourlaw11.CodeImages'. -/
def codeImagesUptoCard : Claim7 := { stood := { row := codeImagesUptoRow, standIns := [], harness := (true, "09f3955e2506db9d694d53cd88677c4dac7498df58084f312a9763c90cd309ff"), looks := false }, kinds := [], alts := [], laidByText := true, laidKinds := [.data], laidTests := true, laidLooks := .later }
def CodeImagesUptoCardSaid : Prop := Claim7.holds Tryd.pinned (.plain (OpenSpec.upto codeImagesSpec)) codeImagesUptoCard
end Rows
end Go.Proofs.YtlpmammagebkfaaDoor
