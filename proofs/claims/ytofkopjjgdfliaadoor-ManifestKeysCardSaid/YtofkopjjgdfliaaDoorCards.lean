/-
  DERIVED. GIVEN WITH THE SEED: THE CARDS: each row of YtofkopjjgdfliaaDoorRows.lean that lists a variable, with what it lists TIED to the program's text (the seventh form; the later family's looks); each row that meets fmt, with fmt's text TOLD by the authors' own Lean function (tested against real Go, not proved from fmt's source: count such statements apart). THE CARD IS WHAT COUNTS. Prove the row's statement (the work); the ties are given (YtofkopjjgdfliaaDoorTie.lean); close each card by the builder's one call (the guide's Derived/Test/ToyasCard.lean, 'card_holds'). Laid BY PROGRAM, IN A SANDBOX (cutbox-door.mjs). By AI agents, Wed Nov 11 2026. No macro, syntax, notation, axiom, sorry.
-/
import Derived.Test.YtofkopjjgdfliaaDoorRows
import GoSem.ClaimSeven
namespace Go.Proofs.YtofkopjjgdfliaaDoor
namespace Rows

/-- THE TIED CARD OF 'downpourlaw14.ManifestForms'. -/
def manifestFormsCard : Claim7 := { stood := { row := manifestFormsRow, standIns := [], harness := (true, "a028b62b0770a329ac9f2c5bd358b87ef8ef0051f1054fc69ae7a951b73df485"), looks := false }, kinds := [], alts := [], laidByText := true, laidKinds := [.data, .data], laidTests := true, laidLooks := .later }
def ManifestFormsCardSaid : Prop := Claim7.holds Tryd.pinned (.plain (OpenSpec.ofChange manifestFormsSpec)) manifestFormsCard

/-- THE TIED CARD OF 'downpourlaw14.ManifestBack'. -/
def manifestBackCard : Claim7 := { stood := { row := manifestBackRow, standIns := [], harness := (true, "a028b62b0770a329ac9f2c5bd358b87ef8ef0051f1054fc69ae7a951b73df485"), looks := false }, kinds := [], alts := [], laidByText := true, laidKinds := [.data, .data], laidTests := true, laidLooks := .later }
def ManifestBackCardSaid : Prop := Claim7.holds Tryd.pinned (.plain (OpenSpec.ofChange manifestBackSpec)) manifestBackCard

/-- THE TIED CARD OF 'downpourlaw14.ManifestSpoilt'. -/
def manifestSpoiltCard : Claim7 := { stood := { row := manifestSpoiltRow, standIns := [], harness := (true, "a028b62b0770a329ac9f2c5bd358b87ef8ef0051f1054fc69ae7a951b73df485"), looks := false }, kinds := [], alts := [], laidByText := true, laidKinds := [.data, .data], laidTests := true, laidLooks := .later }
def ManifestSpoiltCardSaid : Prop := Claim7.holds Tryd.pinned (.plain (OpenSpec.ofChange manifestSpoiltSpec)) manifestSpoiltCard

/-- THE TIED CARD OF 'downpourlaw14.ManifestKeys'. -/
def manifestKeysCard : Claim7 := { stood := { row := manifestKeysRow, standIns := [], harness := (true, "a028b62b0770a329ac9f2c5bd358b87ef8ef0051f1054fc69ae7a951b73df485"), looks := false }, kinds := [], alts := [], laidByText := true, laidKinds := [.data, .data], laidTests := true, laidLooks := .later }
def ManifestKeysCardSaid : Prop := Claim7.holds Tryd.pinned (.plain (OpenSpec.ofChange manifestKeysSpec)) manifestKeysCard

/-- THE TIED CARD OF 'downpourlaw14.ManifestNumbers'. -/
def manifestNumbersCard : Claim7 := { stood := { row := manifestNumbersRow, standIns := [], harness := (true, "a028b62b0770a329ac9f2c5bd358b87ef8ef0051f1054fc69ae7a951b73df485"), looks := false }, kinds := [], alts := [], laidByText := true, laidKinds := [.data, .data], laidTests := true, laidLooks := .later }
def ManifestNumbersCardSaid : Prop := Claim7.holds Tryd.pinned (.plain (OpenSpec.ofChange manifestNumbersSpec)) manifestNumbersCard

/-- THE SECOND FORM's CARD OF 'downpourlaw14.ManifestForms'. -/
def manifestFormsUptoCard : Claim7 := { stood := { row := manifestFormsUptoRow, standIns := [], harness := (true, "a028b62b0770a329ac9f2c5bd358b87ef8ef0051f1054fc69ae7a951b73df485"), looks := false }, kinds := [], alts := [], laidByText := true, laidKinds := [.data, .data], laidTests := true, laidLooks := .later }
def ManifestFormsUptoCardSaid : Prop := Claim7.holds Tryd.pinned (.plain (OpenSpec.upto manifestFormsSpec)) manifestFormsUptoCard

/-- THE SECOND FORM's CARD OF 'downpourlaw14.ManifestBack'. -/
def manifestBackUptoCard : Claim7 := { stood := { row := manifestBackUptoRow, standIns := [], harness := (true, "a028b62b0770a329ac9f2c5bd358b87ef8ef0051f1054fc69ae7a951b73df485"), looks := false }, kinds := [], alts := [], laidByText := true, laidKinds := [.data, .data], laidTests := true, laidLooks := .later }
def ManifestBackUptoCardSaid : Prop := Claim7.holds Tryd.pinned (.plain (OpenSpec.upto manifestBackSpec)) manifestBackUptoCard

/-- THE SECOND FORM's CARD OF 'downpourlaw14.ManifestSpoilt'. -/
def manifestSpoiltUptoCard : Claim7 := { stood := { row := manifestSpoiltUptoRow, standIns := [], harness := (true, "a028b62b0770a329ac9f2c5bd358b87ef8ef0051f1054fc69ae7a951b73df485"), looks := false }, kinds := [], alts := [], laidByText := true, laidKinds := [.data, .data], laidTests := true, laidLooks := .later }
def ManifestSpoiltUptoCardSaid : Prop := Claim7.holds Tryd.pinned (.plain (OpenSpec.upto manifestSpoiltSpec)) manifestSpoiltUptoCard

/-- THE SECOND FORM's CARD OF 'downpourlaw14.ManifestKeys'. -/
def manifestKeysUptoCard : Claim7 := { stood := { row := manifestKeysUptoRow, standIns := [], harness := (true, "a028b62b0770a329ac9f2c5bd358b87ef8ef0051f1054fc69ae7a951b73df485"), looks := false }, kinds := [], alts := [], laidByText := true, laidKinds := [.data, .data], laidTests := true, laidLooks := .later }
def ManifestKeysUptoCardSaid : Prop := Claim7.holds Tryd.pinned (.plain (OpenSpec.upto manifestKeysSpec)) manifestKeysUptoCard

/-- THE SECOND FORM's CARD OF 'downpourlaw14.ManifestNumbers'. -/
def manifestNumbersUptoCard : Claim7 := { stood := { row := manifestNumbersUptoRow, standIns := [], harness := (true, "a028b62b0770a329ac9f2c5bd358b87ef8ef0051f1054fc69ae7a951b73df485"), looks := false }, kinds := [], alts := [], laidByText := true, laidKinds := [.data, .data], laidTests := true, laidLooks := .later }
def ManifestNumbersUptoCardSaid : Prop := Claim7.holds Tryd.pinned (.plain (OpenSpec.upto manifestNumbersSpec)) manifestNumbersUptoCard
end Rows
end Go.Proofs.YtofkopjjgdfliaaDoor
