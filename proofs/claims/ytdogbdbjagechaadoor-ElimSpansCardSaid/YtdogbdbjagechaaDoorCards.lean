/-
  DERIVED. GIVEN WITH THE SEED: THE CARDS: each row of YtdogbdbjagechaaDoorRows.lean that lists a variable, with what it lists TIED to the program's text (the seventh form; the later family's looks); each row that meets fmt, with fmt's text TOLD by the authors' own Lean function (tested against real Go, not proved from fmt's source: count such statements apart). THE CARD IS WHAT COUNTS. Prove the row's statement (the work); the ties are given (YtdogbdbjagechaaDoorTie.lean); close each card by the builder's one call (the guide's Derived/Test/ToyasCard.lean, 'card_holds'). Laid BY PROGRAM, IN A SANDBOX (cutbox-door.mjs). By AI agents, Wed Nov 11 2026. No macro, syntax, notation, axiom, sorry.
-/
import Derived.Test.YtdogbdbjagechaaDoorRows
import GoSem.ClaimSeven
namespace Go.Proofs.YtdogbdbjagechaaDoor
namespace Rows

/-- THE TIED CARD OF 'downpourlaw6.ElimPlays'. -/
def elimPlaysCard : Claim7 := { stood := { row := elimPlaysRow, standIns := [], harness := (true, "a15e0add7ab608f673a10480b3ad78d530ac126cd99c19dc53d2c47b33ada29c"), looks := false }, kinds := [], alts := [], laidByText := true, laidKinds := [.data], laidTests := true, laidLooks := .later }
def ElimPlaysCardSaid : Prop := Claim7.holds Tryd.pinned (.plain (OpenSpec.ofChange elimPlaysSpec)) elimPlaysCard

/-- THE TIED CARD OF 'downpourlaw6.ElimReads'. -/
def elimReadsCard : Claim7 := { stood := { row := elimReadsRow, standIns := [], harness := (true, "a15e0add7ab608f673a10480b3ad78d530ac126cd99c19dc53d2c47b33ada29c"), looks := false }, kinds := [], alts := [], laidByText := true, laidKinds := [.data], laidTests := true, laidLooks := .later }
def ElimReadsCardSaid : Prop := Claim7.holds Tryd.pinned (.plain (OpenSpec.ofChange elimReadsSpec)) elimReadsCard

/-- THE TIED CARD OF 'downpourlaw6.ElimNil'. -/
def elimNilCard : Claim7 := { stood := { row := elimNilRow, standIns := [], harness := (true, "a15e0add7ab608f673a10480b3ad78d530ac126cd99c19dc53d2c47b33ada29c"), looks := false }, kinds := [], alts := [], laidByText := true, laidKinds := [.data], laidTests := true, laidLooks := .later }
def ElimNilCardSaid : Prop := Claim7.holds Tryd.pinned (.plain (OpenSpec.ofChange elimNilSpec)) elimNilCard

/-- THE TIED CARD OF 'downpourlaw6.ElimSpans'. -/
def elimSpansCard : Claim7 := { stood := { row := elimSpansRow, standIns := [], harness := (true, "a15e0add7ab608f673a10480b3ad78d530ac126cd99c19dc53d2c47b33ada29c"), looks := false }, kinds := [], alts := [], laidByText := true, laidKinds := [.data], laidTests := true, laidLooks := .later }
def ElimSpansCardSaid : Prop := Claim7.holds Tryd.pinned (.plain (OpenSpec.ofChange elimSpansSpec)) elimSpansCard

/-- THE TIED CARD OF 'downpourlaw6.ElimUnits'. -/
def elimUnitsCard : Claim7 := { stood := { row := elimUnitsRow, standIns := [], harness := (true, "a15e0add7ab608f673a10480b3ad78d530ac126cd99c19dc53d2c47b33ada29c"), looks := false }, kinds := [], alts := [], laidByText := true, laidKinds := [.data], laidTests := true, laidLooks := .later }
def ElimUnitsCardSaid : Prop := Claim7.holds Tryd.pinned (.plain (OpenSpec.ofChange elimUnitsSpec)) elimUnitsCard

/-- THE TIED CARD OF 'downpourlaw6.ElimBytes'. -/
def elimBytesCard : Claim7 := { stood := { row := elimBytesRow, standIns := [], harness := (true, "a15e0add7ab608f673a10480b3ad78d530ac126cd99c19dc53d2c47b33ada29c"), looks := false }, kinds := [], alts := [], laidByText := true, laidKinds := [.data], laidTests := true, laidLooks := .later }
def ElimBytesCardSaid : Prop := Claim7.holds Tryd.pinned (.plain (OpenSpec.ofChange elimBytesSpec)) elimBytesCard

/-- THE SECOND FORM's CARD OF 'downpourlaw6.ElimPlays'. -/
def elimPlaysUptoCard : Claim7 := { stood := { row := elimPlaysUptoRow, standIns := [], harness := (true, "a15e0add7ab608f673a10480b3ad78d530ac126cd99c19dc53d2c47b33ada29c"), looks := false }, kinds := [], alts := [], laidByText := true, laidKinds := [.data], laidTests := true, laidLooks := .later }
def ElimPlaysUptoCardSaid : Prop := Claim7.holds Tryd.pinned (.plain (OpenSpec.upto elimPlaysSpec)) elimPlaysUptoCard

/-- THE SECOND FORM's CARD OF 'downpourlaw6.ElimReads'. -/
def elimReadsUptoCard : Claim7 := { stood := { row := elimReadsUptoRow, standIns := [], harness := (true, "a15e0add7ab608f673a10480b3ad78d530ac126cd99c19dc53d2c47b33ada29c"), looks := false }, kinds := [], alts := [], laidByText := true, laidKinds := [.data], laidTests := true, laidLooks := .later }
def ElimReadsUptoCardSaid : Prop := Claim7.holds Tryd.pinned (.plain (OpenSpec.upto elimReadsSpec)) elimReadsUptoCard

/-- THE SECOND FORM's CARD OF 'downpourlaw6.ElimNil'. -/
def elimNilUptoCard : Claim7 := { stood := { row := elimNilUptoRow, standIns := [], harness := (true, "a15e0add7ab608f673a10480b3ad78d530ac126cd99c19dc53d2c47b33ada29c"), looks := false }, kinds := [], alts := [], laidByText := true, laidKinds := [.data], laidTests := true, laidLooks := .later }
def ElimNilUptoCardSaid : Prop := Claim7.holds Tryd.pinned (.plain (OpenSpec.upto elimNilSpec)) elimNilUptoCard

/-- THE SECOND FORM's CARD OF 'downpourlaw6.ElimSpans'. -/
def elimSpansUptoCard : Claim7 := { stood := { row := elimSpansUptoRow, standIns := [], harness := (true, "a15e0add7ab608f673a10480b3ad78d530ac126cd99c19dc53d2c47b33ada29c"), looks := false }, kinds := [], alts := [], laidByText := true, laidKinds := [.data], laidTests := true, laidLooks := .later }
def ElimSpansUptoCardSaid : Prop := Claim7.holds Tryd.pinned (.plain (OpenSpec.upto elimSpansSpec)) elimSpansUptoCard

/-- THE SECOND FORM's CARD OF 'downpourlaw6.ElimUnits'. -/
def elimUnitsUptoCard : Claim7 := { stood := { row := elimUnitsUptoRow, standIns := [], harness := (true, "a15e0add7ab608f673a10480b3ad78d530ac126cd99c19dc53d2c47b33ada29c"), looks := false }, kinds := [], alts := [], laidByText := true, laidKinds := [.data], laidTests := true, laidLooks := .later }
def ElimUnitsUptoCardSaid : Prop := Claim7.holds Tryd.pinned (.plain (OpenSpec.upto elimUnitsSpec)) elimUnitsUptoCard

/-- THE SECOND FORM's CARD OF 'downpourlaw6.ElimBytes'. -/
def elimBytesUptoCard : Claim7 := { stood := { row := elimBytesUptoRow, standIns := [], harness := (true, "a15e0add7ab608f673a10480b3ad78d530ac126cd99c19dc53d2c47b33ada29c"), looks := false }, kinds := [], alts := [], laidByText := true, laidKinds := [.data], laidTests := true, laidLooks := .later }
def ElimBytesUptoCardSaid : Prop := Claim7.holds Tryd.pinned (.plain (OpenSpec.upto elimBytesSpec)) elimBytesUptoCard
end Rows
end Go.Proofs.YtdogbdbjagechaaDoor
