/-
  DERIVED. GIVEN WITH THE SEED: THE CARDS: each row of YtlhifbckmknijaaGreatDoorRows.lean that lists a variable, with what it lists TIED to the program's text (the seventh form; the later family's looks); each row that meets fmt, with fmt's text TOLD by the authors' own Lean function (tested against real Go, not proved from fmt's source: count such statements apart). THE CARD IS WHAT COUNTS. Prove the row's statement (the work); the ties are given (YtlhifbckmknijaaGreatDoorTie.lean); close each card by the builder's one call (the guide's Derived/Test/ToyasCard.lean, 'card_holds'). Laid BY PROGRAM, IN A SANDBOX (cutbox-door.mjs). By AI agents, Wed Nov 11 2026. No macro, syntax, notation, axiom, sorry.
-/
import Derived.Test.YtlhifbckmknijaaGreatDoorRows
import GoSem.ClaimSeven
namespace Go.Proofs.YtlhifbckmknijaaGreatDoor
namespace Rows

/-- THE TIED CARD OF 'rewindlaw05.ExprReads'. -/
def exprReadsCard : Claim7 := { stood := { row := exprReadsRow, standIns := [], harness := (true, "50da5e91306dee1434ea32e597df9b5e29f3f242257c4159d22ae5eb33a6e5b4"), looks := true }, kinds := [], alts := [], laidByText := true, laidKinds := [.data, .data, .data, .data, .data, .sentinel, .sentinel, .data, .data, .data], laidTests := true, laidLooks := .later }
def ExprReadsCardSaid : Prop := Claim7.holds Tryz.pinned (.plain (OpenSpec.ofChange exprReadsSpec)) exprReadsCard

/-- THE TIED CARD OF 'rewindlaw05.ExprLists'. -/
def exprListsCard : Claim7 := { stood := { row := exprListsRow, standIns := [], harness := (true, "50da5e91306dee1434ea32e597df9b5e29f3f242257c4159d22ae5eb33a6e5b4"), looks := true }, kinds := [], alts := [], laidByText := true, laidKinds := [.data, .data, .data, .data, .data, .sentinel, .sentinel, .data, .data, .data], laidTests := true, laidLooks := .later }
def ExprListsCardSaid : Prop := Claim7.holds Tryz.pinned (.plain (OpenSpec.ofChange exprListsSpec)) exprListsCard

/-- THE TIED CARD OF 'rewindlaw06.StmtParses'. -/
def stmtParsesCard : Claim7 := { stood := { row := stmtParsesRow, standIns := [], harness := (true, "50da5e91306dee1434ea32e597df9b5e29f3f242257c4159d22ae5eb33a6e5b4"), looks := true }, kinds := [], alts := [], laidByText := true, laidKinds := [.data, .data, .data, .data, .data, .data, .data], laidTests := true, laidLooks := .later }
def StmtParsesCardSaid : Prop := Claim7.holds Tryz.pinned (.plain (OpenSpec.ofChange stmtParsesSpec)) stmtParsesCard

/-- THE TIED CARD OF 'rewindlaw06.StmtForms'. -/
def stmtFormsCard : Claim7 := { stood := { row := stmtFormsRow, standIns := [], harness := (true, "50da5e91306dee1434ea32e597df9b5e29f3f242257c4159d22ae5eb33a6e5b4"), looks := true }, kinds := [], alts := [], laidByText := true, laidKinds := [.data, .data, .data, .data, .data, .data, .data], laidTests := true, laidLooks := .later }
def StmtFormsCardSaid : Prop := Claim7.holds Tryz.pinned (.plain (OpenSpec.ofChange stmtFormsSpec)) stmtFormsCard

/-- THE TIED CARD OF 'rewindlaw06.StmtNeeded'. -/
def stmtNeededCard : Claim7 := { stood := { row := stmtNeededRow, standIns := [], harness := (true, "50da5e91306dee1434ea32e597df9b5e29f3f242257c4159d22ae5eb33a6e5b4"), looks := true }, kinds := [], alts := [], laidByText := true, laidKinds := [.data, .data, .data, .data, .data, .data, .data], laidTests := true, laidLooks := .later }
def StmtNeededCardSaid : Prop := Claim7.holds Tryz.pinned (.plain (OpenSpec.ofChange stmtNeededSpec)) stmtNeededCard

/-- THE TIED CARD OF 'rewindlaw06.StmtDeep'. -/
def stmtDeepCard : Claim7 := { stood := { row := stmtDeepRow, standIns := [], harness := (true, "50da5e91306dee1434ea32e597df9b5e29f3f242257c4159d22ae5eb33a6e5b4"), looks := true }, kinds := [], alts := [], laidByText := true, laidKinds := [.data, .data, .data, .data, .data, .data, .data], laidTests := true, laidLooks := .later }
def StmtDeepCardSaid : Prop := Claim7.holds Tryz.pinned (.plain (OpenSpec.ofChange stmtDeepSpec)) stmtDeepCard

/-- THE SECOND FORM's CARD OF 'rewindlaw05.ExprReads'. -/
def exprReadsUptoCard : Claim7 := { stood := { row := exprReadsUptoRow, standIns := [], harness := (true, "50da5e91306dee1434ea32e597df9b5e29f3f242257c4159d22ae5eb33a6e5b4"), looks := true }, kinds := [], alts := [], laidByText := true, laidKinds := [.data, .data, .data, .data, .data, .sentinel, .sentinel, .data, .data, .data], laidTests := true, laidLooks := .later }
def ExprReadsUptoCardSaid : Prop := Claim7.holds Tryz.pinned (.plain (OpenSpec.upto exprReadsSpec)) exprReadsUptoCard

/-- THE SECOND FORM's CARD OF 'rewindlaw05.ExprLists'. -/
def exprListsUptoCard : Claim7 := { stood := { row := exprListsUptoRow, standIns := [], harness := (true, "50da5e91306dee1434ea32e597df9b5e29f3f242257c4159d22ae5eb33a6e5b4"), looks := true }, kinds := [], alts := [], laidByText := true, laidKinds := [.data, .data, .data, .data, .data, .sentinel, .sentinel, .data, .data, .data], laidTests := true, laidLooks := .later }
def ExprListsUptoCardSaid : Prop := Claim7.holds Tryz.pinned (.plain (OpenSpec.upto exprListsSpec)) exprListsUptoCard

/-- THE SECOND FORM's CARD OF 'rewindlaw06.StmtParses'. -/
def stmtParsesUptoCard : Claim7 := { stood := { row := stmtParsesUptoRow, standIns := [], harness := (true, "50da5e91306dee1434ea32e597df9b5e29f3f242257c4159d22ae5eb33a6e5b4"), looks := true }, kinds := [], alts := [], laidByText := true, laidKinds := [.data, .data, .data, .data, .data, .data, .data], laidTests := true, laidLooks := .later }
def StmtParsesUptoCardSaid : Prop := Claim7.holds Tryz.pinned (.plain (OpenSpec.upto stmtParsesSpec)) stmtParsesUptoCard

/-- THE SECOND FORM's CARD OF 'rewindlaw06.StmtForms'. -/
def stmtFormsUptoCard : Claim7 := { stood := { row := stmtFormsUptoRow, standIns := [], harness := (true, "50da5e91306dee1434ea32e597df9b5e29f3f242257c4159d22ae5eb33a6e5b4"), looks := true }, kinds := [], alts := [], laidByText := true, laidKinds := [.data, .data, .data, .data, .data, .data, .data], laidTests := true, laidLooks := .later }
def StmtFormsUptoCardSaid : Prop := Claim7.holds Tryz.pinned (.plain (OpenSpec.upto stmtFormsSpec)) stmtFormsUptoCard

/-- THE SECOND FORM's CARD OF 'rewindlaw06.StmtNeeded'. -/
def stmtNeededUptoCard : Claim7 := { stood := { row := stmtNeededUptoRow, standIns := [], harness := (true, "50da5e91306dee1434ea32e597df9b5e29f3f242257c4159d22ae5eb33a6e5b4"), looks := true }, kinds := [], alts := [], laidByText := true, laidKinds := [.data, .data, .data, .data, .data, .data, .data], laidTests := true, laidLooks := .later }
def StmtNeededUptoCardSaid : Prop := Claim7.holds Tryz.pinned (.plain (OpenSpec.upto stmtNeededSpec)) stmtNeededUptoCard

/-- THE SECOND FORM's CARD OF 'rewindlaw06.StmtDeep'. -/
def stmtDeepUptoCard : Claim7 := { stood := { row := stmtDeepUptoRow, standIns := [], harness := (true, "50da5e91306dee1434ea32e597df9b5e29f3f242257c4159d22ae5eb33a6e5b4"), looks := true }, kinds := [], alts := [], laidByText := true, laidKinds := [.data, .data, .data, .data, .data, .data, .data], laidTests := true, laidLooks := .later }
def StmtDeepUptoCardSaid : Prop := Claim7.holds Tryz.pinned (.plain (OpenSpec.upto stmtDeepSpec)) stmtDeepUptoCard
end Rows
end Go.Proofs.YtlhifbckmknijaaGreatDoor
