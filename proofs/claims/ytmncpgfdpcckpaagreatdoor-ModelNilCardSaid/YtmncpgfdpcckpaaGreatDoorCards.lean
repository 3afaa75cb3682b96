/-
  DERIVED. GIVEN WITH THE SEED: THE CARDS: each row of YtmncpgfdpcckpaaGreatDoorRows.lean that lists a variable, with what it lists TIED to the program's text (the seventh form; the later family's looks); each row that meets fmt, with fmt's text TOLD by the authors' own Lean function (tested against real Go, not proved from fmt's source: count such statements apart). THE CARD IS WHAT COUNTS. Prove the row's statement (the work); the ties are given (YtmncpgfdpcckpaaGreatDoorTie.lean); close each card by the builder's one call (the guide's Derived/Test/ToyasCard.lean, 'card_holds'). Laid BY PROGRAM, IN A SANDBOX (cutbox-door.mjs). By AI agents, Wed Nov 11 2026. No macro, syntax, notation, axiom, sorry.
-/
import Derived.Test.YtmncpgfdpcckpaaGreatDoorRows
import GoSem.ClaimSeven
namespace Go.Proofs.YtmncpgfdpcckpaaGreatDoor
namespace Rows

/-- THE TIED CARD OF 'downpourlaw25.ModelNil'. -/
def modelNilCard : Claim7 := { stood := { row := modelNilRow, standIns := [], harness := (true, "45db04fc853f8bfe7bd44211a0f9bda8e5229aac4198125ac1c2cc2283451f82"), looks := false }, kinds := [], alts := [], laidByText := true, laidKinds := [.data, .data, .data], laidTests := true, laidLooks := .later }
def ModelNilCardSaid : Prop := Claim7.holds Tryz.pinned (.plain (OpenSpec.ofChange modelNilSpec)) modelNilCard

/-- THE TIED CARD OF 'downpourlaw25.ModelRefuses'. -/
def modelRefusesCard : Claim7 := { stood := { row := modelRefusesRow, standIns := [], harness := (true, "45db04fc853f8bfe7bd44211a0f9bda8e5229aac4198125ac1c2cc2283451f82"), looks := false }, kinds := [], alts := [], laidByText := true, laidKinds := [.data, .data, .data], laidTests := true, laidLooks := .later }
def ModelRefusesCardSaid : Prop := Claim7.holds Tryz.pinned (.plain (OpenSpec.ofChange modelRefusesSpec)) modelRefusesCard

/-- THE TIED CARD OF 'downpourlaw25.ModelTwo'. -/
def modelTwoCard : Claim7 := { stood := { row := modelTwoRow, standIns := [], harness := (true, "45db04fc853f8bfe7bd44211a0f9bda8e5229aac4198125ac1c2cc2283451f82"), looks := false }, kinds := [], alts := [], laidByText := true, laidKinds := [.data, .data, .data], laidTests := true, laidLooks := .later }
def ModelTwoCardSaid : Prop := Claim7.holds Tryz.pinned (.plain (OpenSpec.ofChange modelTwoSpec)) modelTwoCard

/-- THE SECOND FORM's CARD OF 'downpourlaw25.ModelNil'. -/
def modelNilUptoCard : Claim7 := { stood := { row := modelNilUptoRow, standIns := [], harness := (true, "45db04fc853f8bfe7bd44211a0f9bda8e5229aac4198125ac1c2cc2283451f82"), looks := false }, kinds := [], alts := [], laidByText := true, laidKinds := [.data, .data, .data], laidTests := true, laidLooks := .later }
def ModelNilUptoCardSaid : Prop := Claim7.holds Tryz.pinned (.plain (OpenSpec.upto modelNilSpec)) modelNilUptoCard

/-- THE SECOND FORM's CARD OF 'downpourlaw25.ModelRefuses'. -/
def modelRefusesUptoCard : Claim7 := { stood := { row := modelRefusesUptoRow, standIns := [], harness := (true, "45db04fc853f8bfe7bd44211a0f9bda8e5229aac4198125ac1c2cc2283451f82"), looks := false }, kinds := [], alts := [], laidByText := true, laidKinds := [.data, .data, .data], laidTests := true, laidLooks := .later }
def ModelRefusesUptoCardSaid : Prop := Claim7.holds Tryz.pinned (.plain (OpenSpec.upto modelRefusesSpec)) modelRefusesUptoCard

/-- THE SECOND FORM's CARD OF 'downpourlaw25.ModelTwo'. -/
def modelTwoUptoCard : Claim7 := { stood := { row := modelTwoUptoRow, standIns := [], harness := (true, "45db04fc853f8bfe7bd44211a0f9bda8e5229aac4198125ac1c2cc2283451f82"), looks := false }, kinds := [], alts := [], laidByText := true, laidKinds := [.data, .data, .data], laidTests := true, laidLooks := .later }
def ModelTwoUptoCardSaid : Prop := Claim7.holds Tryz.pinned (.plain (OpenSpec.upto modelTwoSpec)) modelTwoUptoCard
end Rows
end Go.Proofs.YtmncpgfdpcckpaaGreatDoor
