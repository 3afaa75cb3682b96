/-
  DERIVED. GIVEN WITH THE SEED: THE CARDS: each row of YtmaiekkjnaadnaaDoorRows.lean that lists a variable, with what it lists TIED to the program's text (the seventh form; the later family's looks); each row that meets fmt, with fmt's text TOLD by the authors' own Lean function (tested against real Go, not proved from fmt's source: count such statements apart). THE CARD IS WHAT COUNTS. Prove the row's statement (the work); the ties are given (YtmaiekkjnaadnaaDoorTie.lean); close each card by the builder's one call (the guide's Derived/Test/ToyasCard.lean, 'card_holds'). Laid BY PROGRAM, IN A SANDBOX (cutbox-door.mjs). By AI agents, Wed Nov 11 2026. No macro, syntax, notation, axiom, sorry.
-/
import Derived.Test.YtmaiekkjnaadnaaDoorRows
import GoSem.ClaimSeven
namespace Go.Proofs.YtmaiekkjnaadnaaDoor
namespace Rows

/-- THE TIED CARD OF 'downpourlaw5.VecForms'. -/
def vecFormsCard : Claim7 := { stood := { row := vecFormsRow, standIns := [], harness := (true, "6ec80d94780005a0a0a3db0d4a7d168db21af541cf1855dff984b660b57c48c9"), looks := false }, kinds := [], alts := [], laidByText := true, laidKinds := [.data], laidTests := true, laidLooks := .later }
def VecFormsCardSaid : Prop := Claim7.holds Tryd.pinned (.plain (OpenSpec.ofChange vecFormsSpec)) vecFormsCard

/-- THE TIED CARD OF 'downpourlaw5.VecNil'. -/
def vecNilCard : Claim7 := { stood := { row := vecNilRow, standIns := [], harness := (true, "6ec80d94780005a0a0a3db0d4a7d168db21af541cf1855dff984b660b57c48c9"), looks := false }, kinds := [], alts := [], laidByText := true, laidKinds := [.data], laidTests := true, laidLooks := .later }
def VecNilCardSaid : Prop := Claim7.holds Tryd.pinned (.plain (OpenSpec.ofChange vecNilSpec)) vecNilCard

/-- THE TIED CARD OF 'downpourlaw5.VecTwice'. -/
def vecTwiceCard : Claim7 := { stood := { row := vecTwiceRow, standIns := [], harness := (true, "6ec80d94780005a0a0a3db0d4a7d168db21af541cf1855dff984b660b57c48c9"), looks := false }, kinds := [], alts := [], laidByText := true, laidKinds := [.data], laidTests := true, laidLooks := .later }
def VecTwiceCardSaid : Prop := Claim7.holds Tryd.pinned (.plain (OpenSpec.ofChange vecTwiceSpec)) vecTwiceCard

/-- THE TIED CARD OF 'downpourlaw5.VecSets'. -/
def vecSetsCard : Claim7 := { stood := { row := vecSetsRow, standIns := [], harness := (true, "6ec80d94780005a0a0a3db0d4a7d168db21af541cf1855dff984b660b57c48c9"), looks := false }, kinds := [], alts := [], laidByText := true, laidKinds := [.data], laidTests := true, laidLooks := .later }
def VecSetsCardSaid : Prop := Claim7.holds Tryd.pinned (.plain (OpenSpec.ofChange vecSetsSpec)) vecSetsCard

/-- THE TIED CARD OF 'downpourlaw5.VecOrder'. -/
def vecOrderCard : Claim7 := { stood := { row := vecOrderRow, standIns := [], harness := (true, "6ec80d94780005a0a0a3db0d4a7d168db21af541cf1855dff984b660b57c48c9"), looks := false }, kinds := [], alts := [], laidByText := true, laidKinds := [.data], laidTests := true, laidLooks := .later }
def VecOrderCardSaid : Prop := Claim7.holds Tryd.pinned (.plain (OpenSpec.ofChange vecOrderSpec)) vecOrderCard

/-- THE SECOND FORM's CARD OF 'downpourlaw5.VecForms'. -/
def vecFormsUptoCard : Claim7 := { stood := { row := vecFormsUptoRow, standIns := [], harness := (true, "6ec80d94780005a0a0a3db0d4a7d168db21af541cf1855dff984b660b57c48c9"), looks := false }, kinds := [], alts := [], laidByText := true, laidKinds := [.data], laidTests := true, laidLooks := .later }
def VecFormsUptoCardSaid : Prop := Claim7.holds Tryd.pinned (.plain (OpenSpec.upto vecFormsSpec)) vecFormsUptoCard

/-- THE SECOND FORM's CARD OF 'downpourlaw5.VecNil'. -/
def vecNilUptoCard : Claim7 := { stood := { row := vecNilUptoRow, standIns := [], harness := (true, "6ec80d94780005a0a0a3db0d4a7d168db21af541cf1855dff984b660b57c48c9"), looks := false }, kinds := [], alts := [], laidByText := true, laidKinds := [.data], laidTests := true, laidLooks := .later }
def VecNilUptoCardSaid : Prop := Claim7.holds Tryd.pinned (.plain (OpenSpec.upto vecNilSpec)) vecNilUptoCard

/-- THE SECOND FORM's CARD OF 'downpourlaw5.VecTwice'. -/
def vecTwiceUptoCard : Claim7 := { stood := { row := vecTwiceUptoRow, standIns := [], harness := (true, "6ec80d94780005a0a0a3db0d4a7d168db21af541cf1855dff984b660b57c48c9"), looks := false }, kinds := [], alts := [], laidByText := true, laidKinds := [.data], laidTests := true, laidLooks := .later }
def VecTwiceUptoCardSaid : Prop := Claim7.holds Tryd.pinned (.plain (OpenSpec.upto vecTwiceSpec)) vecTwiceUptoCard

/-- THE SECOND FORM's CARD OF 'downpourlaw5.VecSets'. -/
def vecSetsUptoCard : Claim7 := { stood := { row := vecSetsUptoRow, standIns := [], harness := (true, "6ec80d94780005a0a0a3db0d4a7d168db21af541cf1855dff984b660b57c48c9"), looks := false }, kinds := [], alts := [], laidByText := true, laidKinds := [.data], laidTests := true, laidLooks := .later }
def VecSetsUptoCardSaid : Prop := Claim7.holds Tryd.pinned (.plain (OpenSpec.upto vecSetsSpec)) vecSetsUptoCard

/-- THE SECOND FORM's CARD OF 'downpourlaw5.VecOrder'. -/
def vecOrderUptoCard : Claim7 := { stood := { row := vecOrderUptoRow, standIns := [], harness := (true, "6ec80d94780005a0a0a3db0d4a7d168db21af541cf1855dff984b660b57c48c9"), looks := false }, kinds := [], alts := [], laidByText := true, laidKinds := [.data], laidTests := true, laidLooks := .later }
def VecOrderUptoCardSaid : Prop := Claim7.holds Tryd.pinned (.plain (OpenSpec.upto vecOrderSpec)) vecOrderUptoCard
end Rows
end Go.Proofs.YtmaiekkjnaadnaaDoor
