/-
  DERIVED. GIVEN WITH THE SEED: THE CARDS: each row of YtoblapnnpjgpnaaGreatDoorRows.lean that lists a variable, with what it lists TIED to the program's text (the seventh form; the later family's looks); each row that meets fmt, with fmt's text TOLD by the authors' own Lean function (tested against real Go, not proved from fmt's source: count such statements apart). THE CARD IS WHAT COUNTS. Prove the row's statement (the work); the ties are given (YtoblapnnpjgpnaaGreatDoorTie.lean); close each card by the builder's one call (the guide's Derived/Test/ToyasCard.lean, 'card_holds'). Laid BY PROGRAM, IN A SANDBOX (cutbox-door.mjs). By AI agents, Wed Nov 11 2026. No macro, syntax, notation, axiom, sorry.
-/
import Derived.Test.YtoblapnnpjgpnaaGreatDoorRows
import GoSem.ClaimSeven
namespace Go.Proofs.YtoblapnnpjgpnaaGreatDoor
namespace Rows

/-- THE TIED CARD OF 'downpourlaw23.StoreNil'. -/
def storeNilCard : Claim7 := { stood := { row := storeNilRow, standIns := [], harness := (true, "eab01785ff346fbc3eade6b0280e194a354ecd502f6540e445d19344053b9f1c"), looks := false }, kinds := [], alts := [], laidByText := true, laidKinds := [.data], laidTests := true, laidLooks := .later }
def StoreNilCardSaid : Prop := Claim7.holds Tryz.pinned (.plain (OpenSpec.ofChange storeNilSpec)) storeNilCard

/-- THE TIED CARD OF 'downpourlaw23.StoreKept'. -/
def storeKeptCard : Claim7 := { stood := { row := storeKeptRow, standIns := [], harness := (true, "eab01785ff346fbc3eade6b0280e194a354ecd502f6540e445d19344053b9f1c"), looks := false }, kinds := [], alts := [], laidByText := true, laidKinds := [.data], laidTests := true, laidLooks := .later }
def StoreKeptCardSaid : Prop := Claim7.holds Tryz.pinned (.plain (OpenSpec.ofChange storeKeptSpec)) storeKeptCard

/-- THE TIED CARD OF 'downpourlaw23.StoreAnew'. -/
def storeAnewCard : Claim7 := { stood := { row := storeAnewRow, standIns := [], harness := (true, "eab01785ff346fbc3eade6b0280e194a354ecd502f6540e445d19344053b9f1c"), looks := false }, kinds := [], alts := [], laidByText := true, laidKinds := [.data], laidTests := true, laidLooks := .later }
def StoreAnewCardSaid : Prop := Claim7.holds Tryz.pinned (.plain (OpenSpec.ofChange storeAnewSpec)) storeAnewCard

/-- THE SECOND FORM's CARD OF 'downpourlaw23.StoreNil'. -/
def storeNilUptoCard : Claim7 := { stood := { row := storeNilUptoRow, standIns := [], harness := (true, "eab01785ff346fbc3eade6b0280e194a354ecd502f6540e445d19344053b9f1c"), looks := false }, kinds := [], alts := [], laidByText := true, laidKinds := [.data], laidTests := true, laidLooks := .later }
def StoreNilUptoCardSaid : Prop := Claim7.holds Tryz.pinned (.plain (OpenSpec.upto storeNilSpec)) storeNilUptoCard

/-- THE SECOND FORM's CARD OF 'downpourlaw23.StoreKept'. -/
def storeKeptUptoCard : Claim7 := { stood := { row := storeKeptUptoRow, standIns := [], harness := (true, "eab01785ff346fbc3eade6b0280e194a354ecd502f6540e445d19344053b9f1c"), looks := false }, kinds := [], alts := [], laidByText := true, laidKinds := [.data], laidTests := true, laidLooks := .later }
def StoreKeptUptoCardSaid : Prop := Claim7.holds Tryz.pinned (.plain (OpenSpec.upto storeKeptSpec)) storeKeptUptoCard

/-- THE SECOND FORM's CARD OF 'downpourlaw23.StoreAnew'. -/
def storeAnewUptoCard : Claim7 := { stood := { row := storeAnewUptoRow, standIns := [], harness := (true, "eab01785ff346fbc3eade6b0280e194a354ecd502f6540e445d19344053b9f1c"), looks := false }, kinds := [], alts := [], laidByText := true, laidKinds := [.data], laidTests := true, laidLooks := .later }
def StoreAnewUptoCardSaid : Prop := Claim7.holds Tryz.pinned (.plain (OpenSpec.upto storeAnewSpec)) storeAnewUptoCard
end Rows
end Go.Proofs.YtoblapnnpjgpnaaGreatDoor
