/-
  DERIVED. GIVEN WITH THE SEED: THE CARDS: each row of YtcgcmfhidolohaaDoorRows.lean that lists a variable, with what it lists TIED to the program's text (the seventh form; the later family's looks); each row that meets fmt, with fmt's text TOLD by the authors' own Lean function (tested against real Go, not proved from fmt's source: count such statements apart). THE CARD IS WHAT COUNTS. Prove the row's statement (the work); the ties are given (YtcgcmfhidolohaaDoorTie.lean); close each card by the builder's one call (the guide's Derived/Test/ToyasCard.lean, 'card_holds'). Laid BY PROGRAM, IN A SANDBOX (cutbox-door.mjs). By AI agents, Wed Nov 11 2026. No macro, syntax, notation, axiom, sorry.
-/
import Derived.Test.YtcgcmfhidolohaaDoorRows
import GoSem.ClaimSeven
namespace Go.Proofs.YtcgcmfhidolohaaDoor
namespace Rows

/-- THE TIED CARD OF 'downpourlaw14.ManifestForms'. -/
def manifestFormsCard : Claim7 := { stood := { row := manifestFormsRow, standIns := [], harness := (true, "2db1075bc83bb68d8f987cc82c5a71eab128ee548811950b21f445aea964c3c4"), looks := false }, kinds := [], alts := [], laidByText := true, laidKinds := [.data, .data], laidTests := true, laidLooks := .later }
def ManifestFormsCardSaid : Prop := Claim7.holds Tryd.pinned (.plain (OpenSpec.ofChange manifestFormsSpec)) manifestFormsCard

/-- THE SECOND FORM's CARD OF 'downpourlaw14.ManifestForms'. -/
def manifestFormsUptoCard : Claim7 := { stood := { row := manifestFormsUptoRow, standIns := [], harness := (true, "2db1075bc83bb68d8f987cc82c5a71eab128ee548811950b21f445aea964c3c4"), looks := false }, kinds := [], alts := [], laidByText := true, laidKinds := [.data, .data], laidTests := true, laidLooks := .later }
def ManifestFormsUptoCardSaid : Prop := Claim7.holds Tryd.pinned (.plain (OpenSpec.upto manifestFormsSpec)) manifestFormsUptoCard
end Rows
end Go.Proofs.YtcgcmfhidolohaaDoor
