/-
  DERIVED. GIVEN WITH THE SEED: THE CARDS: each row of YtidcnoejihjgjaaGreatDoorRows.lean that lists a variable, with what it lists TIED to the program's text (the seventh form; the later family's looks); each row that meets fmt, with fmt's text TOLD by the authors' own Lean function (tested against real Go, not proved from fmt's source: count such statements apart). THE CARD IS WHAT COUNTS. Prove the row's statement (the work); the ties are given (YtidcnoejihjgjaaGreatDoorTie.lean); close each card by the builder's one call (the guide's Derived/Test/ToyasCard.lean, 'card_holds'). Laid BY PROGRAM, IN A SANDBOX (cutbox-door.mjs). By AI agents, Wed Nov 11 2026. No macro, syntax, notation, axiom, sorry.
-/
import Derived.Test.YtidcnoejihjgjaaGreatDoorRows
import GoSem.ClaimSeven
namespace Go.Proofs.YtidcnoejihjgjaaGreatDoor
namespace Rows

/-- THE TIED CARD OF 'downpourlaw26.CarouselForms'. -/
def carouselFormsCard : Claim7 := { stood := { row := carouselFormsRow, standIns := [], harness := (true, "8df21fb73a7490c0d1a11e7ea3970aff0f467d49a0905de2d0f1e7230aa91304"), looks := false }, kinds := [], alts := [], laidByText := true, laidKinds := [.data, .data, .data], laidTests := true, laidLooks := .later }
def CarouselFormsCardSaid : Prop := Claim7.holds Tryz.pinned (.plain (OpenSpec.ofChange carouselFormsSpec)) carouselFormsCard

/-- THE TIED CARD OF 'downpourlaw26.CarouselEnough'. -/
def carouselEnoughCard : Claim7 := { stood := { row := carouselEnoughRow, standIns := [], harness := (true, "8df21fb73a7490c0d1a11e7ea3970aff0f467d49a0905de2d0f1e7230aa91304"), looks := false }, kinds := [], alts := [], laidByText := true, laidKinds := [.data, .data, .data], laidTests := true, laidLooks := .later }
def CarouselEnoughCardSaid : Prop := Claim7.holds Tryz.pinned (.plain (OpenSpec.ofChange carouselEnoughSpec)) carouselEnoughCard

/-- THE SECOND FORM's CARD OF 'downpourlaw26.CarouselForms'. -/
def carouselFormsUptoCard : Claim7 := { stood := { row := carouselFormsUptoRow, standIns := [], harness := (true, "8df21fb73a7490c0d1a11e7ea3970aff0f467d49a0905de2d0f1e7230aa91304"), looks := false }, kinds := [], alts := [], laidByText := true, laidKinds := [.data, .data, .data], laidTests := true, laidLooks := .later }
def CarouselFormsUptoCardSaid : Prop := Claim7.holds Tryz.pinned (.plain (OpenSpec.upto carouselFormsSpec)) carouselFormsUptoCard

/-- THE SECOND FORM's CARD OF 'downpourlaw26.CarouselEnough'. -/
def carouselEnoughUptoCard : Claim7 := { stood := { row := carouselEnoughUptoRow, standIns := [], harness := (true, "8df21fb73a7490c0d1a11e7ea3970aff0f467d49a0905de2d0f1e7230aa91304"), looks := false }, kinds := [], alts := [], laidByText := true, laidKinds := [.data, .data, .data], laidTests := true, laidLooks := .later }
def CarouselEnoughUptoCardSaid : Prop := Claim7.holds Tryz.pinned (.plain (OpenSpec.upto carouselEnoughSpec)) carouselEnoughUptoCard
end Rows
end Go.Proofs.YtidcnoejihjgjaaGreatDoor
