/-
  DERIVED. GIVEN WITH THE SEED: THE CARDS: each row of YtanompoceadjoaaDoorRows.lean that lists a variable, with what it lists TIED to the program's text (the seventh form; the later family's looks); each row that meets fmt, with fmt's text TOLD by the authors' own Lean function (tested against real Go, not proved from fmt's source: count such statements apart). THE CARD IS WHAT COUNTS. Prove the row's statement (the work); the ties are given (YtanompoceadjoaaDoorTie.lean); close each card by the builder's one call (the guide's Derived/Test/ToyasCard.lean, 'card_holds'). Laid BY PROGRAM, IN A SANDBOX (cutbox-door.mjs). By AI agents, Wed Nov 11 2026. No macro, syntax, notation, axiom, sorry.
-/
import Derived.Test.YtanompoceadjoaaDoorRows
import GoSem.ClaimSeven
namespace Go.Proofs.YtanompoceadjoaaDoor
namespace Rows

/-- THE TIED CARD OF 'downpourlaw21.BootForms'. -/
def bootFormsCard : Claim7 := { stood := { row := bootFormsRow, standIns := [], harness := (true, "329eb4decfd042c507de6a614fad67d5f01f9c7cece381cdf9aeb6250c2b5c23"), looks := false }, kinds := [], alts := [], laidByText := true, laidKinds := [.data, .data], laidTests := true, laidLooks := .later }
def BootFormsCardSaid : Prop := Claim7.holds Tryd.pinned (.plain (OpenSpec.ofChange bootFormsSpec)) bootFormsCard

/-- THE TIED CARD OF 'downpourlaw21.BootBack'. -/
def bootBackCard : Claim7 := { stood := { row := bootBackRow, standIns := [], harness := (true, "329eb4decfd042c507de6a614fad67d5f01f9c7cece381cdf9aeb6250c2b5c23"), looks := false }, kinds := [], alts := [], laidByText := true, laidKinds := [.data, .data], laidTests := true, laidLooks := .later }
def BootBackCardSaid : Prop := Claim7.holds Tryd.pinned (.plain (OpenSpec.ofChange bootBackSpec)) bootBackCard

/-- THE TIED CARD OF 'downpourlaw21.BootKeeps'. -/
def bootKeepsCard : Claim7 := { stood := { row := bootKeepsRow, standIns := [], harness := (true, "329eb4decfd042c507de6a614fad67d5f01f9c7cece381cdf9aeb6250c2b5c23"), looks := false }, kinds := [], alts := [], laidByText := true, laidKinds := [.data, .data], laidTests := true, laidLooks := .later }
def BootKeepsCardSaid : Prop := Claim7.holds Tryd.pinned (.plain (OpenSpec.ofChange bootKeepsSpec)) bootKeepsCard

/-- THE TIED CARD OF 'downpourlaw21.BootEnds'. -/
def bootEndsCard : Claim7 := { stood := { row := bootEndsRow, standIns := [], harness := (true, "329eb4decfd042c507de6a614fad67d5f01f9c7cece381cdf9aeb6250c2b5c23"), looks := false }, kinds := [], alts := [], laidByText := true, laidKinds := [.data, .data], laidTests := true, laidLooks := .later }
def BootEndsCardSaid : Prop := Claim7.holds Tryd.pinned (.plain (OpenSpec.ofChange bootEndsSpec)) bootEndsCard

/-- THE TIED CARD OF 'downpourlaw21.BootConfirms'. -/
def bootConfirmsCard : Claim7 := { stood := { row := bootConfirmsRow, standIns := [], harness := (true, "329eb4decfd042c507de6a614fad67d5f01f9c7cece381cdf9aeb6250c2b5c23"), looks := false }, kinds := [], alts := [], laidByText := true, laidKinds := [.data, .data], laidTests := true, laidLooks := .later }
def BootConfirmsCardSaid : Prop := Claim7.holds Tryd.pinned (.plain (OpenSpec.ofChange bootConfirmsSpec)) bootConfirmsCard

/-- THE SECOND FORM's CARD OF 'downpourlaw21.BootForms'. -/
def bootFormsUptoCard : Claim7 := { stood := { row := bootFormsUptoRow, standIns := [], harness := (true, "329eb4decfd042c507de6a614fad67d5f01f9c7cece381cdf9aeb6250c2b5c23"), looks := false }, kinds := [], alts := [], laidByText := true, laidKinds := [.data, .data], laidTests := true, laidLooks := .later }
def BootFormsUptoCardSaid : Prop := Claim7.holds Tryd.pinned (.plain (OpenSpec.upto bootFormsSpec)) bootFormsUptoCard

/-- THE SECOND FORM's CARD OF 'downpourlaw21.BootBack'. -/
def bootBackUptoCard : Claim7 := { stood := { row := bootBackUptoRow, standIns := [], harness := (true, "329eb4decfd042c507de6a614fad67d5f01f9c7cece381cdf9aeb6250c2b5c23"), looks := false }, kinds := [], alts := [], laidByText := true, laidKinds := [.data, .data], laidTests := true, laidLooks := .later }
def BootBackUptoCardSaid : Prop := Claim7.holds Tryd.pinned (.plain (OpenSpec.upto bootBackSpec)) bootBackUptoCard

/-- THE SECOND FORM's CARD OF 'downpourlaw21.BootKeeps'. -/
def bootKeepsUptoCard : Claim7 := { stood := { row := bootKeepsUptoRow, standIns := [], harness := (true, "329eb4decfd042c507de6a614fad67d5f01f9c7cece381cdf9aeb6250c2b5c23"), looks := false }, kinds := [], alts := [], laidByText := true, laidKinds := [.data, .data], laidTests := true, laidLooks := .later }
def BootKeepsUptoCardSaid : Prop := Claim7.holds Tryd.pinned (.plain (OpenSpec.upto bootKeepsSpec)) bootKeepsUptoCard

/-- THE SECOND FORM's CARD OF 'downpourlaw21.BootEnds'. -/
def bootEndsUptoCard : Claim7 := { stood := { row := bootEndsUptoRow, standIns := [], harness := (true, "329eb4decfd042c507de6a614fad67d5f01f9c7cece381cdf9aeb6250c2b5c23"), looks := false }, kinds := [], alts := [], laidByText := true, laidKinds := [.data, .data], laidTests := true, laidLooks := .later }
def BootEndsUptoCardSaid : Prop := Claim7.holds Tryd.pinned (.plain (OpenSpec.upto bootEndsSpec)) bootEndsUptoCard

/-- THE SECOND FORM's CARD OF 'downpourlaw21.BootConfirms'. -/
def bootConfirmsUptoCard : Claim7 := { stood := { row := bootConfirmsUptoRow, standIns := [], harness := (true, "329eb4decfd042c507de6a614fad67d5f01f9c7cece381cdf9aeb6250c2b5c23"), looks := false }, kinds := [], alts := [], laidByText := true, laidKinds := [.data, .data], laidTests := true, laidLooks := .later }
def BootConfirmsUptoCardSaid : Prop := Claim7.holds Tryd.pinned (.plain (OpenSpec.upto bootConfirmsSpec)) bootConfirmsUptoCard
end Rows
end Go.Proofs.YtanompoceadjoaaDoor
