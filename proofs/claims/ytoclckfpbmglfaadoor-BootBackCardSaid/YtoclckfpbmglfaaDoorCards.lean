/-
  DERIVED. GIVEN WITH THE SEED: THE CARDS: each row of YtoclckfpbmglfaaDoorRows.lean that lists a variable, with what it lists TIED to the program's text (the seventh form; the later family's looks); each row that meets fmt, with fmt's text TOLD by the authors' own Lean function (tested against real Go, not proved from fmt's source: count such statements apart). THE CARD IS WHAT COUNTS. Prove the row's statement (the work); the ties are given (YtoclckfpbmglfaaDoorTie.lean); close each card by the builder's one call (the guide's Derived/Test/ToyasCard.lean, 'card_holds'). Laid BY PROGRAM, IN A SANDBOX (cutbox-door.mjs). By AI agents, Wed Nov 11 2026. No macro, syntax, notation, axiom, sorry.
-/
import Derived.Test.YtoclckfpbmglfaaDoorRows
import GoSem.ClaimSeven
namespace Go.Proofs.YtoclckfpbmglfaaDoor
namespace Rows

/-- THE TIED CARD OF 'downpourlaw21.BootBack'. -/
def bootBackCard : Claim7 := { stood := { row := bootBackRow, standIns := [], harness := (true, "851b547761bf4f940fdecde0033783db0c91e89e77870cc9465992f20f179a8e"), looks := false }, kinds := [], alts := [], laidByText := true, laidKinds := [.data, .data], laidTests := true, laidLooks := .later }
def BootBackCardSaid : Prop := Claim7.holds Tryd.pinned (.plain (OpenSpec.ofChange bootBackSpec)) bootBackCard

/-- THE TIED CARD OF 'downpourlaw21.BootForms'. -/
def bootFormsCard : Claim7 := { stood := { row := bootFormsRow, standIns := [], harness := (true, "851b547761bf4f940fdecde0033783db0c91e89e77870cc9465992f20f179a8e"), looks := false }, kinds := [], alts := [], laidByText := true, laidKinds := [.data, .data], laidTests := true, laidLooks := .later }
def BootFormsCardSaid : Prop := Claim7.holds Tryd.pinned (.plain (OpenSpec.ofChange bootFormsSpec)) bootFormsCard

/-- THE SECOND FORM's CARD OF 'downpourlaw21.BootBack'. -/
def bootBackUptoCard : Claim7 := { stood := { row := bootBackUptoRow, standIns := [], harness := (true, "851b547761bf4f940fdecde0033783db0c91e89e77870cc9465992f20f179a8e"), looks := false }, kinds := [], alts := [], laidByText := true, laidKinds := [.data, .data], laidTests := true, laidLooks := .later }
def BootBackUptoCardSaid : Prop := Claim7.holds Tryd.pinned (.plain (OpenSpec.upto bootBackSpec)) bootBackUptoCard

/-- THE SECOND FORM's CARD OF 'downpourlaw21.BootForms'. -/
def bootFormsUptoCard : Claim7 := { stood := { row := bootFormsUptoRow, standIns := [], harness := (true, "851b547761bf4f940fdecde0033783db0c91e89e77870cc9465992f20f179a8e"), looks := false }, kinds := [], alts := [], laidByText := true, laidKinds := [.data, .data], laidTests := true, laidLooks := .later }
def BootFormsUptoCardSaid : Prop := Claim7.holds Tryd.pinned (.plain (OpenSpec.upto bootFormsSpec)) bootFormsUptoCard
end Rows
end Go.Proofs.YtoclckfpbmglfaaDoor
