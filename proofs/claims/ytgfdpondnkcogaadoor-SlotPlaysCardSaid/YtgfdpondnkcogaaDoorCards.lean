/-
  DERIVED. GIVEN WITH THE SEED: THE CARDS: each row of YtgfdpondnkcogaaDoorRows.lean that lists a variable, with what it lists TIED to the program's text (the seventh form; the later family's looks); each row that meets fmt, with fmt's text TOLD by the authors' own Lean function (tested against real Go, not proved from fmt's source: count such statements apart). THE CARD IS WHAT COUNTS. Prove the row's statement (the work); the ties are given (YtgfdpondnkcogaaDoorTie.lean); close each card by the builder's one call (the guide's Derived/Test/ToyasCard.lean, 'card_holds'). Laid BY PROGRAM, IN A SANDBOX (cutbox-door.mjs). By AI agents, Wed Nov 11 2026. No macro, syntax, notation, axiom, sorry.
-/
import Derived.Test.YtgfdpondnkcogaaDoorRows
import GoSem.ClaimSeven
namespace Go.Proofs.YtgfdpondnkcogaaDoor
namespace Rows

/-- THE TIED CARD OF 'downpourlaw20.SlotPlays'. -/
def slotPlaysCard : Claim7 := { stood := { row := slotPlaysRow, standIns := [], harness := (true, "7b8158f6dc496b4ad9c3618d348f6d59e09678ca3416b27c2464af55e8f90546"), looks := false }, kinds := [], alts := [], laidByText := true, laidKinds := [.data, .data], laidTests := true, laidLooks := .later }
def SlotPlaysCardSaid : Prop := Claim7.holds Tryd.pinned (.plain (OpenSpec.ofChange slotPlaysSpec)) slotPlaysCard

/-- THE TIED CARD OF 'downpourlaw20.SlotWhole'. -/
def slotWholeCard : Claim7 := { stood := { row := slotWholeRow, standIns := [], harness := (true, "7b8158f6dc496b4ad9c3618d348f6d59e09678ca3416b27c2464af55e8f90546"), looks := false }, kinds := [], alts := [], laidByText := true, laidKinds := [.data, .data], laidTests := true, laidLooks := .later }
def SlotWholeCardSaid : Prop := Claim7.holds Tryd.pinned (.plain (OpenSpec.ofChange slotWholeSpec)) slotWholeCard

/-- THE TIED CARD OF 'downpourlaw20.SlotSteps'. -/
def slotStepsCard : Claim7 := { stood := { row := slotStepsRow, standIns := [], harness := (true, "7b8158f6dc496b4ad9c3618d348f6d59e09678ca3416b27c2464af55e8f90546"), looks := false }, kinds := [], alts := [], laidByText := true, laidKinds := [.data, .data], laidTests := true, laidLooks := .later }
def SlotStepsCardSaid : Prop := Claim7.holds Tryd.pinned (.plain (OpenSpec.ofChange slotStepsSpec)) slotStepsCard

/-- THE TIED CARD OF 'downpourlaw20.SlotOthers'. -/
def slotOthersCard : Claim7 := { stood := { row := slotOthersRow, standIns := [], harness := (true, "7b8158f6dc496b4ad9c3618d348f6d59e09678ca3416b27c2464af55e8f90546"), looks := false }, kinds := [], alts := [], laidByText := true, laidKinds := [.data, .data], laidTests := true, laidLooks := .later }
def SlotOthersCardSaid : Prop := Claim7.holds Tryd.pinned (.plain (OpenSpec.ofChange slotOthersSpec)) slotOthersCard

/-- THE TIED CARD OF 'downpourlaw20.SlotApart'. -/
def slotApartCard : Claim7 := { stood := { row := slotApartRow, standIns := [], harness := (true, "7b8158f6dc496b4ad9c3618d348f6d59e09678ca3416b27c2464af55e8f90546"), looks := false }, kinds := [], alts := [], laidByText := true, laidKinds := [.data, .data], laidTests := true, laidLooks := .later }
def SlotApartCardSaid : Prop := Claim7.holds Tryd.pinned (.plain (OpenSpec.ofChange slotApartSpec)) slotApartCard

/-- THE SECOND FORM's CARD OF 'downpourlaw20.SlotPlays'. -/
def slotPlaysUptoCard : Claim7 := { stood := { row := slotPlaysUptoRow, standIns := [], harness := (true, "7b8158f6dc496b4ad9c3618d348f6d59e09678ca3416b27c2464af55e8f90546"), looks := false }, kinds := [], alts := [], laidByText := true, laidKinds := [.data, .data], laidTests := true, laidLooks := .later }
def SlotPlaysUptoCardSaid : Prop := Claim7.holds Tryd.pinned (.plain (OpenSpec.upto slotPlaysSpec)) slotPlaysUptoCard

/-- THE SECOND FORM's CARD OF 'downpourlaw20.SlotWhole'. -/
def slotWholeUptoCard : Claim7 := { stood := { row := slotWholeUptoRow, standIns := [], harness := (true, "7b8158f6dc496b4ad9c3618d348f6d59e09678ca3416b27c2464af55e8f90546"), looks := false }, kinds := [], alts := [], laidByText := true, laidKinds := [.data, .data], laidTests := true, laidLooks := .later }
def SlotWholeUptoCardSaid : Prop := Claim7.holds Tryd.pinned (.plain (OpenSpec.upto slotWholeSpec)) slotWholeUptoCard

/-- THE SECOND FORM's CARD OF 'downpourlaw20.SlotSteps'. -/
def slotStepsUptoCard : Claim7 := { stood := { row := slotStepsUptoRow, standIns := [], harness := (true, "7b8158f6dc496b4ad9c3618d348f6d59e09678ca3416b27c2464af55e8f90546"), looks := false }, kinds := [], alts := [], laidByText := true, laidKinds := [.data, .data], laidTests := true, laidLooks := .later }
def SlotStepsUptoCardSaid : Prop := Claim7.holds Tryd.pinned (.plain (OpenSpec.upto slotStepsSpec)) slotStepsUptoCard

/-- THE SECOND FORM's CARD OF 'downpourlaw20.SlotOthers'. -/
def slotOthersUptoCard : Claim7 := { stood := { row := slotOthersUptoRow, standIns := [], harness := (true, "7b8158f6dc496b4ad9c3618d348f6d59e09678ca3416b27c2464af55e8f90546"), looks := false }, kinds := [], alts := [], laidByText := true, laidKinds := [.data, .data], laidTests := true, laidLooks := .later }
def SlotOthersUptoCardSaid : Prop := Claim7.holds Tryd.pinned (.plain (OpenSpec.upto slotOthersSpec)) slotOthersUptoCard

/-- THE SECOND FORM's CARD OF 'downpourlaw20.SlotApart'. -/
def slotApartUptoCard : Claim7 := { stood := { row := slotApartUptoRow, standIns := [], harness := (true, "7b8158f6dc496b4ad9c3618d348f6d59e09678ca3416b27c2464af55e8f90546"), looks := false }, kinds := [], alts := [], laidByText := true, laidKinds := [.data, .data], laidTests := true, laidLooks := .later }
def SlotApartUptoCardSaid : Prop := Claim7.holds Tryd.pinned (.plain (OpenSpec.upto slotApartSpec)) slotApartUptoCard
end Rows
end Go.Proofs.YtgfdpondnkcogaaDoor
