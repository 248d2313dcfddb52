/-
  DERIVED. GIVEN WITH THE SEED: THE CARDS: each row of YtoldhocdfkndbaaGreatDoorRows.lean that lists a variable, with what it lists TIED to the program's text (the seventh form; the later family's looks); each row that meets fmt, with fmt's text TOLD by the authors' own Lean function (tested against real Go, not proved from fmt's source: count such statements apart). THE CARD IS WHAT COUNTS. Prove the row's statement (the work); the ties are given (YtoldhocdfkndbaaGreatDoorTie.lean); close each card by the builder's one call (the guide's Derived/Test/ToyasCard.lean, 'card_holds'). Laid BY PROGRAM, IN A SANDBOX (cutbox-door.mjs). By AI agents, Wed Nov 11 2026. No macro, syntax, notation, axiom, sorry.
-/
import Derived.Test.YtoldhocdfkndbaaGreatDoorRows
import GoSem.ClaimSeven
namespace Go.Proofs.YtoldhocdfkndbaaGreatDoor
namespace Rows

/-- THE TIED CARD OF 'rewindlaw05.ExprOps'. -/
def exprOpsCard : Claim7 := { stood := { row := exprOpsRow, standIns := [], harness := (true, "e4f30b743373c5bb9299a106025882d90f28c60c48495d3e8cbad48cf312fd70"), looks := true }, kinds := [], alts := [], laidByText := true, laidKinds := [.data, .data, .data, .data, .data, .sentinel, .sentinel, .data, .data, .data], laidTests := true, laidLooks := .later }
def ExprOpsCardSaid : Prop := Claim7.holds Tryz.pinned (.plain (OpenSpec.ofChange exprOpsSpec)) exprOpsCard

/-- THE TIED CARD OF 'rewindlaw05.ExprBack'. -/
def exprBackCard : Claim7 := { stood := { row := exprBackRow, standIns := [], harness := (true, "e4f30b743373c5bb9299a106025882d90f28c60c48495d3e8cbad48cf312fd70"), looks := true }, kinds := [], alts := [], laidByText := true, laidKinds := [.data, .data, .data, .data, .data, .sentinel, .sentinel, .data, .data, .data], laidTests := true, laidLooks := .later }
def ExprBackCardSaid : Prop := Claim7.holds Tryz.pinned (.plain (OpenSpec.ofChange exprBackSpec)) exprBackCard

/-- THE TIED CARD OF 'rewindlaw05.ExprRanks'. -/
def exprRanksCard : Claim7 := { stood := { row := exprRanksRow, standIns := [], harness := (true, "e4f30b743373c5bb9299a106025882d90f28c60c48495d3e8cbad48cf312fd70"), looks := true }, kinds := [], alts := [], laidByText := true, laidKinds := [.data, .data, .data, .data, .data, .sentinel, .sentinel, .data, .data, .data], laidTests := true, laidLooks := .later }
def ExprRanksCardSaid : Prop := Claim7.holds Tryz.pinned (.plain (OpenSpec.ofChange exprRanksSpec)) exprRanksCard

/-- THE TIED CARD OF 'rewindlaw05.ExprCuts'. -/
def exprCutsCard : Claim7 := { stood := { row := exprCutsRow, standIns := [], harness := (true, "e4f30b743373c5bb9299a106025882d90f28c60c48495d3e8cbad48cf312fd70"), looks := true }, kinds := [], alts := [], laidByText := true, laidKinds := [.data, .data, .data, .data, .data, .sentinel, .sentinel, .data, .data, .data], laidTests := true, laidLooks := .later }
def ExprCutsCardSaid : Prop := Claim7.holds Tryz.pinned (.plain (OpenSpec.ofChange exprCutsSpec)) exprCutsCard

/-- THE TIED CARD OF 'rewindlaw05.ExprDeep'. -/
def exprDeepCard : Claim7 := { stood := { row := exprDeepRow, standIns := [], harness := (true, "e4f30b743373c5bb9299a106025882d90f28c60c48495d3e8cbad48cf312fd70"), looks := true }, kinds := [], alts := [], laidByText := true, laidKinds := [.data, .data, .data, .data, .data, .sentinel, .sentinel, .data, .data, .data], laidTests := true, laidLooks := .later }
def ExprDeepCardSaid : Prop := Claim7.holds Tryz.pinned (.plain (OpenSpec.ofChange exprDeepSpec)) exprDeepCard

/-- THE TIED CARD OF 'rewindlaw05.ExprRefuses'. -/
def exprRefusesCard : Claim7 := { stood := { row := exprRefusesRow, standIns := [], harness := (true, "e4f30b743373c5bb9299a106025882d90f28c60c48495d3e8cbad48cf312fd70"), looks := true }, kinds := [], alts := [], laidByText := true, laidKinds := [.data, .data, .data, .data, .data, .sentinel, .sentinel, .data, .data, .data], laidTests := true, laidLooks := .later }
def ExprRefusesCardSaid : Prop := Claim7.holds Tryz.pinned (.plain (OpenSpec.ofChange exprRefusesSpec)) exprRefusesCard

/-- THE TIED CARD OF 'rewindlaw06.StmtParses'. -/
def stmtParsesCard : Claim7 := { stood := { row := stmtParsesRow, standIns := [], harness := (true, "e4f30b743373c5bb9299a106025882d90f28c60c48495d3e8cbad48cf312fd70"), looks := true }, kinds := [], alts := [], laidByText := true, laidKinds := [.data, .data, .data, .data, .data, .data, .data], laidTests := true, laidLooks := .later }
def StmtParsesCardSaid : Prop := Claim7.holds Tryz.pinned (.plain (OpenSpec.ofChange stmtParsesSpec)) stmtParsesCard

/-- THE TIED CARD OF 'rewindlaw06.StmtWords'. -/
def stmtWordsCard : Claim7 := { stood := { row := stmtWordsRow, standIns := [], harness := (true, "e4f30b743373c5bb9299a106025882d90f28c60c48495d3e8cbad48cf312fd70"), looks := true }, kinds := [], alts := [], laidByText := true, laidKinds := [.data, .data, .data, .data, .data, .data, .data], laidTests := true, laidLooks := .later }
def StmtWordsCardSaid : Prop := Claim7.holds Tryz.pinned (.plain (OpenSpec.ofChange stmtWordsSpec)) stmtWordsCard

/-- THE TIED CARD OF 'rewindlaw06.StmtForms'. -/
def stmtFormsCard : Claim7 := { stood := { row := stmtFormsRow, standIns := [], harness := (true, "e4f30b743373c5bb9299a106025882d90f28c60c48495d3e8cbad48cf312fd70"), looks := true }, kinds := [], alts := [], laidByText := true, laidKinds := [.data, .data, .data, .data, .data, .data, .data], laidTests := true, laidLooks := .later }
def StmtFormsCardSaid : Prop := Claim7.holds Tryz.pinned (.plain (OpenSpec.ofChange stmtFormsSpec)) stmtFormsCard

/-- THE TIED CARD OF 'rewindlaw06.StmtNeeded'. -/
def stmtNeededCard : Claim7 := { stood := { row := stmtNeededRow, standIns := [], harness := (true, "e4f30b743373c5bb9299a106025882d90f28c60c48495d3e8cbad48cf312fd70"), looks := true }, kinds := [], alts := [], laidByText := true, laidKinds := [.data, .data, .data, .data, .data, .data, .data], laidTests := true, laidLooks := .later }
def StmtNeededCardSaid : Prop := Claim7.holds Tryz.pinned (.plain (OpenSpec.ofChange stmtNeededSpec)) stmtNeededCard

/-- THE TIED CARD OF 'rewindlaw06.StmtTypes'. -/
def stmtTypesCard : Claim7 := { stood := { row := stmtTypesRow, standIns := [], harness := (true, "e4f30b743373c5bb9299a106025882d90f28c60c48495d3e8cbad48cf312fd70"), looks := true }, kinds := [], alts := [], laidByText := true, laidKinds := [.data, .data, .data, .data, .data, .data, .data], laidTests := true, laidLooks := .later }
def StmtTypesCardSaid : Prop := Claim7.holds Tryz.pinned (.plain (OpenSpec.ofChange stmtTypesSpec)) stmtTypesCard

/-- THE TIED CARD OF 'rewindlaw06.StmtRefuses'. -/
def stmtRefusesCard : Claim7 := { stood := { row := stmtRefusesRow, standIns := [], harness := (true, "e4f30b743373c5bb9299a106025882d90f28c60c48495d3e8cbad48cf312fd70"), looks := true }, kinds := [], alts := [], laidByText := true, laidKinds := [.data, .data, .data, .data, .data, .data, .data], laidTests := true, laidLooks := .later }
def StmtRefusesCardSaid : Prop := Claim7.holds Tryz.pinned (.plain (OpenSpec.ofChange stmtRefusesSpec)) stmtRefusesCard

/-- THE SECOND FORM's CARD OF 'rewindlaw05.ExprOps'. -/
def exprOpsUptoCard : Claim7 := { stood := { row := exprOpsUptoRow, standIns := [], harness := (true, "e4f30b743373c5bb9299a106025882d90f28c60c48495d3e8cbad48cf312fd70"), looks := true }, kinds := [], alts := [], laidByText := true, laidKinds := [.data, .data, .data, .data, .data, .sentinel, .sentinel, .data, .data, .data], laidTests := true, laidLooks := .later }
def ExprOpsUptoCardSaid : Prop := Claim7.holds Tryz.pinned (.plain (OpenSpec.upto exprOpsSpec)) exprOpsUptoCard

/-- THE SECOND FORM's CARD OF 'rewindlaw05.ExprBack'. -/
def exprBackUptoCard : Claim7 := { stood := { row := exprBackUptoRow, standIns := [], harness := (true, "e4f30b743373c5bb9299a106025882d90f28c60c48495d3e8cbad48cf312fd70"), looks := true }, kinds := [], alts := [], laidByText := true, laidKinds := [.data, .data, .data, .data, .data, .sentinel, .sentinel, .data, .data, .data], laidTests := true, laidLooks := .later }
def ExprBackUptoCardSaid : Prop := Claim7.holds Tryz.pinned (.plain (OpenSpec.upto exprBackSpec)) exprBackUptoCard

/-- THE SECOND FORM's CARD OF 'rewindlaw05.ExprRanks'. -/
def exprRanksUptoCard : Claim7 := { stood := { row := exprRanksUptoRow, standIns := [], harness := (true, "e4f30b743373c5bb9299a106025882d90f28c60c48495d3e8cbad48cf312fd70"), looks := true }, kinds := [], alts := [], laidByText := true, laidKinds := [.data, .data, .data, .data, .data, .sentinel, .sentinel, .data, .data, .data], laidTests := true, laidLooks := .later }
def ExprRanksUptoCardSaid : Prop := Claim7.holds Tryz.pinned (.plain (OpenSpec.upto exprRanksSpec)) exprRanksUptoCard

/-- THE SECOND FORM's CARD OF 'rewindlaw05.ExprCuts'. -/
def exprCutsUptoCard : Claim7 := { stood := { row := exprCutsUptoRow, standIns := [], harness := (true, "e4f30b743373c5bb9299a106025882d90f28c60c48495d3e8cbad48cf312fd70"), looks := true }, kinds := [], alts := [], laidByText := true, laidKinds := [.data, .data, .data, .data, .data, .sentinel, .sentinel, .data, .data, .data], laidTests := true, laidLooks := .later }
def ExprCutsUptoCardSaid : Prop := Claim7.holds Tryz.pinned (.plain (OpenSpec.upto exprCutsSpec)) exprCutsUptoCard

/-- THE SECOND FORM's CARD OF 'rewindlaw05.ExprDeep'. -/
def exprDeepUptoCard : Claim7 := { stood := { row := exprDeepUptoRow, standIns := [], harness := (true, "e4f30b743373c5bb9299a106025882d90f28c60c48495d3e8cbad48cf312fd70"), looks := true }, kinds := [], alts := [], laidByText := true, laidKinds := [.data, .data, .data, .data, .data, .sentinel, .sentinel, .data, .data, .data], laidTests := true, laidLooks := .later }
def ExprDeepUptoCardSaid : Prop := Claim7.holds Tryz.pinned (.plain (OpenSpec.upto exprDeepSpec)) exprDeepUptoCard

/-- THE SECOND FORM's CARD OF 'rewindlaw05.ExprRefuses'. -/
def exprRefusesUptoCard : Claim7 := { stood := { row := exprRefusesUptoRow, standIns := [], harness := (true, "e4f30b743373c5bb9299a106025882d90f28c60c48495d3e8cbad48cf312fd70"), looks := true }, kinds := [], alts := [], laidByText := true, laidKinds := [.data, .data, .data, .data, .data, .sentinel, .sentinel, .data, .data, .data], laidTests := true, laidLooks := .later }
def ExprRefusesUptoCardSaid : Prop := Claim7.holds Tryz.pinned (.plain (OpenSpec.upto exprRefusesSpec)) exprRefusesUptoCard

/-- THE SECOND FORM's CARD OF 'rewindlaw06.StmtParses'. -/
def stmtParsesUptoCard : Claim7 := { stood := { row := stmtParsesUptoRow, standIns := [], harness := (true, "e4f30b743373c5bb9299a106025882d90f28c60c48495d3e8cbad48cf312fd70"), looks := true }, kinds := [], alts := [], laidByText := true, laidKinds := [.data, .data, .data, .data, .data, .data, .data], laidTests := true, laidLooks := .later }
def StmtParsesUptoCardSaid : Prop := Claim7.holds Tryz.pinned (.plain (OpenSpec.upto stmtParsesSpec)) stmtParsesUptoCard

/-- THE SECOND FORM's CARD OF 'rewindlaw06.StmtWords'. -/
def stmtWordsUptoCard : Claim7 := { stood := { row := stmtWordsUptoRow, standIns := [], harness := (true, "e4f30b743373c5bb9299a106025882d90f28c60c48495d3e8cbad48cf312fd70"), looks := true }, kinds := [], alts := [], laidByText := true, laidKinds := [.data, .data, .data, .data, .data, .data, .data], laidTests := true, laidLooks := .later }
def StmtWordsUptoCardSaid : Prop := Claim7.holds Tryz.pinned (.plain (OpenSpec.upto stmtWordsSpec)) stmtWordsUptoCard

/-- THE SECOND FORM's CARD OF 'rewindlaw06.StmtForms'. -/
def stmtFormsUptoCard : Claim7 := { stood := { row := stmtFormsUptoRow, standIns := [], harness := (true, "e4f30b743373c5bb9299a106025882d90f28c60c48495d3e8cbad48cf312fd70"), looks := true }, kinds := [], alts := [], laidByText := true, laidKinds := [.data, .data, .data, .data, .data, .data, .data], laidTests := true, laidLooks := .later }
def StmtFormsUptoCardSaid : Prop := Claim7.holds Tryz.pinned (.plain (OpenSpec.upto stmtFormsSpec)) stmtFormsUptoCard

/-- THE SECOND FORM's CARD OF 'rewindlaw06.StmtNeeded'. -/
def stmtNeededUptoCard : Claim7 := { stood := { row := stmtNeededUptoRow, standIns := [], harness := (true, "e4f30b743373c5bb9299a106025882d90f28c60c48495d3e8cbad48cf312fd70"), looks := true }, kinds := [], alts := [], laidByText := true, laidKinds := [.data, .data, .data, .data, .data, .data, .data], laidTests := true, laidLooks := .later }
def StmtNeededUptoCardSaid : Prop := Claim7.holds Tryz.pinned (.plain (OpenSpec.upto stmtNeededSpec)) stmtNeededUptoCard

/-- THE SECOND FORM's CARD OF 'rewindlaw06.StmtTypes'. -/
def stmtTypesUptoCard : Claim7 := { stood := { row := stmtTypesUptoRow, standIns := [], harness := (true, "e4f30b743373c5bb9299a106025882d90f28c60c48495d3e8cbad48cf312fd70"), looks := true }, kinds := [], alts := [], laidByText := true, laidKinds := [.data, .data, .data, .data, .data, .data, .data], laidTests := true, laidLooks := .later }
def StmtTypesUptoCardSaid : Prop := Claim7.holds Tryz.pinned (.plain (OpenSpec.upto stmtTypesSpec)) stmtTypesUptoCard

/-- THE SECOND FORM's CARD OF 'rewindlaw06.StmtRefuses'. -/
def stmtRefusesUptoCard : Claim7 := { stood := { row := stmtRefusesUptoRow, standIns := [], harness := (true, "e4f30b743373c5bb9299a106025882d90f28c60c48495d3e8cbad48cf312fd70"), looks := true }, kinds := [], alts := [], laidByText := true, laidKinds := [.data, .data, .data, .data, .data, .data, .data], laidTests := true, laidLooks := .later }
def StmtRefusesUptoCardSaid : Prop := Claim7.holds Tryz.pinned (.plain (OpenSpec.upto stmtRefusesSpec)) stmtRefusesUptoCard
end Rows
end Go.Proofs.YtoldhocdfkndbaaGreatDoor
