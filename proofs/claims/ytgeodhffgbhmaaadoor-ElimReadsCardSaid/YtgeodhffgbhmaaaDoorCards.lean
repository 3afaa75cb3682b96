/-
  DERIVED. GIVEN WITH THE SEED: THE CARDS: each row of YtgeodhffgbhmaaaDoorRows.lean that lists a variable, with what it lists TIED to the program's text (the seventh form; the later family's looks); each row that meets fmt, with fmt's text TOLD by the authors' own Lean function (tested against real Go, not proved from fmt's source: count such statements apart). THE CARD IS WHAT COUNTS. Prove the row's statement (the work); the ties are given (YtgeodhffgbhmaaaDoorTie.lean); close each card by the builder's one call (the guide's Derived/Test/ToyasCard.lean, 'card_holds'). Laid BY PROGRAM, IN A SANDBOX (cutbox-door.mjs). By AI agents, Wed Nov 11 2026. No macro, syntax, notation, axiom, sorry.
-/
import Derived.Test.YtgeodhffgbhmaaaDoorRows
import GoSem.ClaimSeven
namespace Go.Proofs.YtgeodhffgbhmaaaDoor
namespace Rows

/-- THE TIED CARD OF 'downpourlaw6.ElimPlays'. -/
def elimPlaysCard : Claim7 := { stood := { row := elimPlaysRow, standIns := [], harness := (true, "1e009ea20045493a796ae4d742bf469a2c22a7a5ed75fffefefd5d1b0857f93e"), looks := false }, kinds := [], alts := [], laidByText := true, laidKinds := [.data], laidTests := true, laidLooks := .later }
def ElimPlaysCardSaid : Prop := Claim7.holds Tryd.pinned (.plain (OpenSpec.ofChange elimPlaysSpec)) elimPlaysCard

/-- THE TIED CARD OF 'downpourlaw6.ElimReads'. -/
def elimReadsCard : Claim7 := { stood := { row := elimReadsRow, standIns := [], harness := (true, "1e009ea20045493a796ae4d742bf469a2c22a7a5ed75fffefefd5d1b0857f93e"), looks := false }, kinds := [], alts := [], laidByText := true, laidKinds := [.data], laidTests := true, laidLooks := .later }
def ElimReadsCardSaid : Prop := Claim7.holds Tryd.pinned (.plain (OpenSpec.ofChange elimReadsSpec)) elimReadsCard

/-- THE TIED CARD OF 'downpourlaw6.ElimBytes'. -/
def elimBytesCard : Claim7 := { stood := { row := elimBytesRow, standIns := [], harness := (true, "1e009ea20045493a796ae4d742bf469a2c22a7a5ed75fffefefd5d1b0857f93e"), looks := false }, kinds := [], alts := [], laidByText := true, laidKinds := [.data], laidTests := true, laidLooks := .later }
def ElimBytesCardSaid : Prop := Claim7.holds Tryd.pinned (.plain (OpenSpec.ofChange elimBytesSpec)) elimBytesCard

/-- THE SECOND FORM's CARD OF 'downpourlaw6.ElimPlays'. -/
def elimPlaysUptoCard : Claim7 := { stood := { row := elimPlaysUptoRow, standIns := [], harness := (true, "1e009ea20045493a796ae4d742bf469a2c22a7a5ed75fffefefd5d1b0857f93e"), looks := false }, kinds := [], alts := [], laidByText := true, laidKinds := [.data], laidTests := true, laidLooks := .later }
def ElimPlaysUptoCardSaid : Prop := Claim7.holds Tryd.pinned (.plain (OpenSpec.upto elimPlaysSpec)) elimPlaysUptoCard

/-- THE SECOND FORM's CARD OF 'downpourlaw6.ElimReads'. -/
def elimReadsUptoCard : Claim7 := { stood := { row := elimReadsUptoRow, standIns := [], harness := (true, "1e009ea20045493a796ae4d742bf469a2c22a7a5ed75fffefefd5d1b0857f93e"), looks := false }, kinds := [], alts := [], laidByText := true, laidKinds := [.data], laidTests := true, laidLooks := .later }
def ElimReadsUptoCardSaid : Prop := Claim7.holds Tryd.pinned (.plain (OpenSpec.upto elimReadsSpec)) elimReadsUptoCard

/-- THE SECOND FORM's CARD OF 'downpourlaw6.ElimBytes'. -/
def elimBytesUptoCard : Claim7 := { stood := { row := elimBytesUptoRow, standIns := [], harness := (true, "1e009ea20045493a796ae4d742bf469a2c22a7a5ed75fffefefd5d1b0857f93e"), looks := false }, kinds := [], alts := [], laidByText := true, laidKinds := [.data], laidTests := true, laidLooks := .later }
def ElimBytesUptoCardSaid : Prop := Claim7.holds Tryd.pinned (.plain (OpenSpec.upto elimBytesSpec)) elimBytesUptoCard
end Rows
end Go.Proofs.YtgeodhffgbhmaaaDoor
