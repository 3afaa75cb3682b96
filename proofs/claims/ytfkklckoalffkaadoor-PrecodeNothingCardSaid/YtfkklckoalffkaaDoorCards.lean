/-
  DERIVED. GIVEN WITH THE SEED: THE CARDS: each row of YtfkklckoalffkaaDoorRows.lean that lists a variable, with what it lists TIED to the program's text (the seventh form; the later family's looks); each row that meets fmt, with fmt's text TOLD by the authors' own Lean function (tested against real Go, not proved from fmt's source: count such statements apart). THE CARD IS WHAT COUNTS. Prove the row's statement (the work); the ties are given (YtfkklckoalffkaaDoorTie.lean); close each card by the builder's one call (the guide's Derived/Test/ToyasCard.lean, 'card_holds'). Laid BY PROGRAM, IN A SANDBOX (cutbox-door.mjs). By AI agents, Wed Nov 11 2026. No macro, syntax, notation, axiom, sorry.
-/
import Derived.Test.YtfkklckoalffkaaDoorRows
import GoSem.ClaimSeven
namespace Go.Proofs.YtfkklckoalffkaaDoor
namespace Rows

/-- THE TIED CARD OF 'downpourlaw8.SpreadSome'. -/
def spreadSomeCard : Claim7 := { stood := { row := spreadSomeRow, standIns := [], harness := (true, "26ec7a75eeb08dfb78967d87684450d2666e08612de7985d2e60bb0353e6875b"), looks := false }, kinds := [], alts := [], laidByText := true, laidKinds := [.data], laidTests := true, laidLooks := .later }
def SpreadSomeCardSaid : Prop := Claim7.holds Tryd.pinned (.plain (OpenSpec.ofChange spreadSomeSpec)) spreadSomeCard

/-- THE TIED CARD OF 'downpourlaw8.SpreadApart'. -/
def spreadApartCard : Claim7 := { stood := { row := spreadApartRow, standIns := [], harness := (true, "26ec7a75eeb08dfb78967d87684450d2666e08612de7985d2e60bb0353e6875b"), looks := false }, kinds := [], alts := [], laidByText := true, laidKinds := [.data], laidTests := true, laidLooks := .later }
def SpreadApartCardSaid : Prop := Claim7.holds Tryd.pinned (.plain (OpenSpec.ofChange spreadApartSpec)) spreadApartCard

/-- THE TIED CARD OF 'downpourlaw8.SpreadSessions'. -/
def spreadSessionsCard : Claim7 := { stood := { row := spreadSessionsRow, standIns := [], harness := (true, "26ec7a75eeb08dfb78967d87684450d2666e08612de7985d2e60bb0353e6875b"), looks := false }, kinds := [], alts := [], laidByText := true, laidKinds := [.data], laidTests := true, laidLooks := .later }
def SpreadSessionsCardSaid : Prop := Claim7.holds Tryd.pinned (.plain (OpenSpec.ofChange spreadSessionsSpec)) spreadSessionsCard

/-- THE TIED CARD OF 'downpourlaw8.SpreadRefuses'. -/
def spreadRefusesCard : Claim7 := { stood := { row := spreadRefusesRow, standIns := [], harness := (true, "26ec7a75eeb08dfb78967d87684450d2666e08612de7985d2e60bb0353e6875b"), looks := false }, kinds := [], alts := [], laidByText := true, laidKinds := [.data], laidTests := true, laidLooks := .later }
def SpreadRefusesCardSaid : Prop := Claim7.holds Tryd.pinned (.plain (OpenSpec.ofChange spreadRefusesSpec)) spreadRefusesCard

/-- THE TIED CARD OF 'downpourlaw9.PrecodeForms'. -/
def precodeFormsCard : Claim7 := { stood := { row := precodeFormsRow, standIns := [], harness := (true, "26ec7a75eeb08dfb78967d87684450d2666e08612de7985d2e60bb0353e6875b"), looks := false }, kinds := [], alts := [], laidByText := true, laidKinds := [.data], laidTests := true, laidLooks := .later }
def PrecodeFormsCardSaid : Prop := Claim7.holds Tryd.pinned (.plain (OpenSpec.ofChange precodeFormsSpec)) precodeFormsCard

/-- THE TIED CARD OF 'downpourlaw9.PrecodeNothing'. -/
def precodeNothingCard : Claim7 := { stood := { row := precodeNothingRow, standIns := [], harness := (true, "26ec7a75eeb08dfb78967d87684450d2666e08612de7985d2e60bb0353e6875b"), looks := false }, kinds := [], alts := [], laidByText := true, laidKinds := [.data], laidTests := true, laidLooks := .later }
def PrecodeNothingCardSaid : Prop := Claim7.holds Tryd.pinned (.plain (OpenSpec.ofChange precodeNothingSpec)) precodeNothingCard

/-- THE TIED CARD OF 'downpourlaw9.PrecodeFew'. -/
def precodeFewCard : Claim7 := { stood := { row := precodeFewRow, standIns := [], harness := (true, "26ec7a75eeb08dfb78967d87684450d2666e08612de7985d2e60bb0353e6875b"), looks := false }, kinds := [], alts := [], laidByText := true, laidKinds := [.data], laidTests := true, laidLooks := .later }
def PrecodeFewCardSaid : Prop := Claim7.holds Tryd.pinned (.plain (OpenSpec.ofChange precodeFewSpec)) precodeFewCard

/-- THE SECOND FORM's CARD OF 'downpourlaw8.SpreadSome'. -/
def spreadSomeUptoCard : Claim7 := { stood := { row := spreadSomeUptoRow, standIns := [], harness := (true, "26ec7a75eeb08dfb78967d87684450d2666e08612de7985d2e60bb0353e6875b"), looks := false }, kinds := [], alts := [], laidByText := true, laidKinds := [.data], laidTests := true, laidLooks := .later }
def SpreadSomeUptoCardSaid : Prop := Claim7.holds Tryd.pinned (.plain (OpenSpec.upto spreadSomeSpec)) spreadSomeUptoCard

/-- THE SECOND FORM's CARD OF 'downpourlaw8.SpreadApart'. -/
def spreadApartUptoCard : Claim7 := { stood := { row := spreadApartUptoRow, standIns := [], harness := (true, "26ec7a75eeb08dfb78967d87684450d2666e08612de7985d2e60bb0353e6875b"), looks := false }, kinds := [], alts := [], laidByText := true, laidKinds := [.data], laidTests := true, laidLooks := .later }
def SpreadApartUptoCardSaid : Prop := Claim7.holds Tryd.pinned (.plain (OpenSpec.upto spreadApartSpec)) spreadApartUptoCard

/-- THE SECOND FORM's CARD OF 'downpourlaw8.SpreadSessions'. -/
def spreadSessionsUptoCard : Claim7 := { stood := { row := spreadSessionsUptoRow, standIns := [], harness := (true, "26ec7a75eeb08dfb78967d87684450d2666e08612de7985d2e60bb0353e6875b"), looks := false }, kinds := [], alts := [], laidByText := true, laidKinds := [.data], laidTests := true, laidLooks := .later }
def SpreadSessionsUptoCardSaid : Prop := Claim7.holds Tryd.pinned (.plain (OpenSpec.upto spreadSessionsSpec)) spreadSessionsUptoCard

/-- THE SECOND FORM's CARD OF 'downpourlaw8.SpreadRefuses'. -/
def spreadRefusesUptoCard : Claim7 := { stood := { row := spreadRefusesUptoRow, standIns := [], harness := (true, "26ec7a75eeb08dfb78967d87684450d2666e08612de7985d2e60bb0353e6875b"), looks := false }, kinds := [], alts := [], laidByText := true, laidKinds := [.data], laidTests := true, laidLooks := .later }
def SpreadRefusesUptoCardSaid : Prop := Claim7.holds Tryd.pinned (.plain (OpenSpec.upto spreadRefusesSpec)) spreadRefusesUptoCard

/-- THE SECOND FORM's CARD OF 'downpourlaw9.PrecodeForms'. -/
def precodeFormsUptoCard : Claim7 := { stood := { row := precodeFormsUptoRow, standIns := [], harness := (true, "26ec7a75eeb08dfb78967d87684450d2666e08612de7985d2e60bb0353e6875b"), looks := false }, kinds := [], alts := [], laidByText := true, laidKinds := [.data], laidTests := true, laidLooks := .later }
def PrecodeFormsUptoCardSaid : Prop := Claim7.holds Tryd.pinned (.plain (OpenSpec.upto precodeFormsSpec)) precodeFormsUptoCard

/-- THE SECOND FORM's CARD OF 'downpourlaw9.PrecodeNothing'. -/
def precodeNothingUptoCard : Claim7 := { stood := { row := precodeNothingUptoRow, standIns := [], harness := (true, "26ec7a75eeb08dfb78967d87684450d2666e08612de7985d2e60bb0353e6875b"), looks := false }, kinds := [], alts := [], laidByText := true, laidKinds := [.data], laidTests := true, laidLooks := .later }
def PrecodeNothingUptoCardSaid : Prop := Claim7.holds Tryd.pinned (.plain (OpenSpec.upto precodeNothingSpec)) precodeNothingUptoCard

/-- THE SECOND FORM's CARD OF 'downpourlaw9.PrecodeFew'. -/
def precodeFewUptoCard : Claim7 := { stood := { row := precodeFewUptoRow, standIns := [], harness := (true, "26ec7a75eeb08dfb78967d87684450d2666e08612de7985d2e60bb0353e6875b"), looks := false }, kinds := [], alts := [], laidByText := true, laidKinds := [.data], laidTests := true, laidLooks := .later }
def PrecodeFewUptoCardSaid : Prop := Claim7.holds Tryd.pinned (.plain (OpenSpec.upto precodeFewSpec)) precodeFewUptoCard
end Rows
end Go.Proofs.YtfkklckoalffkaaDoor
