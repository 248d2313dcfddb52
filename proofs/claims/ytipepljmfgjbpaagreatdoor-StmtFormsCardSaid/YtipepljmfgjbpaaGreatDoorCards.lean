/-
  DERIVED. GIVEN WITH THE SEED: THE CARDS: each row of YtipepljmfgjbpaaGreatDoorRows.lean that lists a variable, with what it lists TIED to the program's text (the seventh form; the later family's looks); each row that meets fmt, with fmt's text TOLD by the authors' own Lean function (tested against real Go, not proved from fmt's source: count such statements apart). THE CARD IS WHAT COUNTS. Prove the row's statement (the work); the ties are given (YtipepljmfgjbpaaGreatDoorTie.lean); close each card by the builder's one call (the guide's Derived/Test/ToyasCard.lean, 'card_holds'). Laid BY PROGRAM, IN A SANDBOX (cutbox-door.mjs). By AI agents, Wed Nov 11 2026. No macro, syntax, notation, axiom, sorry.
-/
import Derived.Test.YtipepljmfgjbpaaGreatDoorRows
import GoSem.ClaimSeven
namespace Go.Proofs.YtipepljmfgjbpaaGreatDoor
namespace Rows

/-- THE TIED CARD OF 'rewindlaw06.StmtForms'. -/
def stmtFormsCard : Claim7 := { stood := { row := stmtFormsRow, standIns := [], harness := (true, "57bf7ada6817e36160371f4b6b73a719c49f0ee071a774306363d25e2a0f44e6"), looks := true }, kinds := [], alts := [], laidByText := true, laidKinds := [.data, .data, .data, .data, .data, .data, .data], laidTests := true, laidLooks := .later }
def StmtFormsCardSaid : Prop := Claim7.holds Tryz.pinned (.plain (OpenSpec.ofChange stmtFormsSpec)) stmtFormsCard

/-- THE TIED CARD OF 'rewindlaw06.StmtNeeded'. -/
def stmtNeededCard : Claim7 := { stood := { row := stmtNeededRow, standIns := [], harness := (true, "57bf7ada6817e36160371f4b6b73a719c49f0ee071a774306363d25e2a0f44e6"), looks := true }, kinds := [], alts := [], laidByText := true, laidKinds := [.data, .data, .data, .data, .data, .data, .data], laidTests := true, laidLooks := .later }
def StmtNeededCardSaid : Prop := Claim7.holds Tryz.pinned (.plain (OpenSpec.ofChange stmtNeededSpec)) stmtNeededCard

/-- THE SECOND FORM's CARD OF 'rewindlaw06.StmtForms'. -/
def stmtFormsUptoCard : Claim7 := { stood := { row := stmtFormsUptoRow, standIns := [], harness := (true, "57bf7ada6817e36160371f4b6b73a719c49f0ee071a774306363d25e2a0f44e6"), looks := true }, kinds := [], alts := [], laidByText := true, laidKinds := [.data, .data, .data, .data, .data, .data, .data], laidTests := true, laidLooks := .later }
def StmtFormsUptoCardSaid : Prop := Claim7.holds Tryz.pinned (.plain (OpenSpec.upto stmtFormsSpec)) stmtFormsUptoCard

/-- THE SECOND FORM's CARD OF 'rewindlaw06.StmtNeeded'. -/
def stmtNeededUptoCard : Claim7 := { stood := { row := stmtNeededUptoRow, standIns := [], harness := (true, "57bf7ada6817e36160371f4b6b73a719c49f0ee071a774306363d25e2a0f44e6"), looks := true }, kinds := [], alts := [], laidByText := true, laidKinds := [.data, .data, .data, .data, .data, .data, .data], laidTests := true, laidLooks := .later }
def StmtNeededUptoCardSaid : Prop := Claim7.holds Tryz.pinned (.plain (OpenSpec.upto stmtNeededSpec)) stmtNeededUptoCard
end Rows
end Go.Proofs.YtipepljmfgjbpaaGreatDoor
