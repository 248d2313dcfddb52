/-
  DERIVED. GIVEN WITH THE SEED: THE CARDS: each row of YtiboolnampnhfaaGreatDoorRows.lean that lists a variable, with what it lists TIED to the program's text (the seventh form; the later family's looks); each row that meets fmt, with fmt's text TOLD by the authors' own Lean function (tested against real Go, not proved from fmt's source: count such statements apart). THE CARD IS WHAT COUNTS. Prove the row's statement (the work); the ties are given (YtiboolnampnhfaaGreatDoorTie.lean); close each card by the builder's one call (the guide's Derived/Test/ToyasCard.lean, 'card_holds'). Laid BY PROGRAM, IN A SANDBOX (cutbox-door.mjs). By AI agents, Wed Nov 11 2026. No macro, syntax, notation, axiom, sorry.
-/
import Derived.Test.YtiboolnampnhfaaGreatDoorRows
import GoSem.ClaimSeven
namespace Go.Proofs.YtiboolnampnhfaaGreatDoor
namespace Rows

/-- THE TIED CARD OF 'rewindlaw05.ExprReads'. -/
def exprReadsCard : Claim7 := { stood := { row := exprReadsRow, standIns := [], harness := (true, "ca715f62506c2620435f681d4c2b6898513c7b6f83813e974f02fa5fb22d2070"), looks := true }, kinds := [], alts := [], laidByText := true, laidKinds := [.data, .data, .data, .data, .data, .sentinel, .sentinel, .data, .data, .data], laidTests := true, laidLooks := .later }
def ExprReadsCardSaid : Prop := Claim7.holds Tryz.pinned (.plain (OpenSpec.ofChange exprReadsSpec)) exprReadsCard

/-- THE TIED CARD OF 'rewindlaw05.ExprOps'. -/
def exprOpsCard : Claim7 := { stood := { row := exprOpsRow, standIns := [], harness := (true, "ca715f62506c2620435f681d4c2b6898513c7b6f83813e974f02fa5fb22d2070"), looks := true }, kinds := [], alts := [], laidByText := true, laidKinds := [.data, .data, .data, .data, .data, .sentinel, .sentinel, .data, .data, .data], laidTests := true, laidLooks := .later }
def ExprOpsCardSaid : Prop := Claim7.holds Tryz.pinned (.plain (OpenSpec.ofChange exprOpsSpec)) exprOpsCard

/-- THE TIED CARD OF 'rewindlaw05.ExprBack'. -/
def exprBackCard : Claim7 := { stood := { row := exprBackRow, standIns := [], harness := (true, "ca715f62506c2620435f681d4c2b6898513c7b6f83813e974f02fa5fb22d2070"), looks := true }, kinds := [], alts := [], laidByText := true, laidKinds := [.data, .data, .data, .data, .data, .sentinel, .sentinel, .data, .data, .data], laidTests := true, laidLooks := .later }
def ExprBackCardSaid : Prop := Claim7.holds Tryz.pinned (.plain (OpenSpec.ofChange exprBackSpec)) exprBackCard

/-- THE TIED CARD OF 'rewindlaw05.ExprRanks'. -/
def exprRanksCard : Claim7 := { stood := { row := exprRanksRow, standIns := [], harness := (true, "ca715f62506c2620435f681d4c2b6898513c7b6f83813e974f02fa5fb22d2070"), looks := true }, kinds := [], alts := [], laidByText := true, laidKinds := [.data, .data, .data, .data, .data, .sentinel, .sentinel, .data, .data, .data], laidTests := true, laidLooks := .later }
def ExprRanksCardSaid : Prop := Claim7.holds Tryz.pinned (.plain (OpenSpec.ofChange exprRanksSpec)) exprRanksCard

/-- THE TIED CARD OF 'rewindlaw05.ExprCuts'. -/
def exprCutsCard : Claim7 := { stood := { row := exprCutsRow, standIns := [], harness := (true, "ca715f62506c2620435f681d4c2b6898513c7b6f83813e974f02fa5fb22d2070"), looks := true }, kinds := [], alts := [], laidByText := true, laidKinds := [.data, .data, .data, .data, .data, .sentinel, .sentinel, .data, .data, .data], laidTests := true, laidLooks := .later }
def ExprCutsCardSaid : Prop := Claim7.holds Tryz.pinned (.plain (OpenSpec.ofChange exprCutsSpec)) exprCutsCard

/-- THE TIED CARD OF 'rewindlaw05.ExprDeep'. -/
def exprDeepCard : Claim7 := { stood := { row := exprDeepRow, standIns := [], harness := (true, "ca715f62506c2620435f681d4c2b6898513c7b6f83813e974f02fa5fb22d2070"), looks := true }, kinds := [], alts := [], laidByText := true, laidKinds := [.data, .data, .data, .data, .data, .sentinel, .sentinel, .data, .data, .data], laidTests := true, laidLooks := .later }
def ExprDeepCardSaid : Prop := Claim7.holds Tryz.pinned (.plain (OpenSpec.ofChange exprDeepSpec)) exprDeepCard

/-- THE TIED CARD OF 'rewindlaw05.ExprLists'. -/
def exprListsCard : Claim7 := { stood := { row := exprListsRow, standIns := [], harness := (true, "ca715f62506c2620435f681d4c2b6898513c7b6f83813e974f02fa5fb22d2070"), looks := true }, kinds := [], alts := [], laidByText := true, laidKinds := [.data, .data, .data, .data, .data, .sentinel, .sentinel, .data, .data, .data], laidTests := true, laidLooks := .later }
def ExprListsCardSaid : Prop := Claim7.holds Tryz.pinned (.plain (OpenSpec.ofChange exprListsSpec)) exprListsCard

/-- THE TIED CARD OF 'rewindlaw05.ExprRefuses'. -/
def exprRefusesCard : Claim7 := { stood := { row := exprRefusesRow, standIns := [], harness := (true, "ca715f62506c2620435f681d4c2b6898513c7b6f83813e974f02fa5fb22d2070"), looks := true }, kinds := [], alts := [], laidByText := true, laidKinds := [.data, .data, .data, .data, .data, .sentinel, .sentinel, .data, .data, .data], laidTests := true, laidLooks := .later }
def ExprRefusesCardSaid : Prop := Claim7.holds Tryz.pinned (.plain (OpenSpec.ofChange exprRefusesSpec)) exprRefusesCard

/-- THE SECOND FORM's CARD OF 'rewindlaw05.ExprReads'. -/
def exprReadsUptoCard : Claim7 := { stood := { row := exprReadsUptoRow, standIns := [], harness := (true, "ca715f62506c2620435f681d4c2b6898513c7b6f83813e974f02fa5fb22d2070"), looks := true }, kinds := [], alts := [], laidByText := true, laidKinds := [.data, .data, .data, .data, .data, .sentinel, .sentinel, .data, .data, .data], laidTests := true, laidLooks := .later }
def ExprReadsUptoCardSaid : Prop := Claim7.holds Tryz.pinned (.plain (OpenSpec.upto exprReadsSpec)) exprReadsUptoCard

/-- THE SECOND FORM's CARD OF 'rewindlaw05.ExprOps'. -/
def exprOpsUptoCard : Claim7 := { stood := { row := exprOpsUptoRow, standIns := [], harness := (true, "ca715f62506c2620435f681d4c2b6898513c7b6f83813e974f02fa5fb22d2070"), looks := true }, kinds := [], alts := [], laidByText := true, laidKinds := [.data, .data, .data, .data, .data, .sentinel, .sentinel, .data, .data, .data], laidTests := true, laidLooks := .later }
def ExprOpsUptoCardSaid : Prop := Claim7.holds Tryz.pinned (.plain (OpenSpec.upto exprOpsSpec)) exprOpsUptoCard

/-- THE SECOND FORM's CARD OF 'rewindlaw05.ExprBack'. -/
def exprBackUptoCard : Claim7 := { stood := { row := exprBackUptoRow, standIns := [], harness := (true, "ca715f62506c2620435f681d4c2b6898513c7b6f83813e974f02fa5fb22d2070"), looks := true }, kinds := [], alts := [], laidByText := true, laidKinds := [.data, .data, .data, .data, .data, .sentinel, .sentinel, .data, .data, .data], laidTests := true, laidLooks := .later }
def ExprBackUptoCardSaid : Prop := Claim7.holds Tryz.pinned (.plain (OpenSpec.upto exprBackSpec)) exprBackUptoCard

/-- THE SECOND FORM's CARD OF 'rewindlaw05.ExprRanks'. -/
def exprRanksUptoCard : Claim7 := { stood := { row := exprRanksUptoRow, standIns := [], harness := (true, "ca715f62506c2620435f681d4c2b6898513c7b6f83813e974f02fa5fb22d2070"), looks := true }, kinds := [], alts := [], laidByText := true, laidKinds := [.data, .data, .data, .data, .data, .sentinel, .sentinel, .data, .data, .data], laidTests := true, laidLooks := .later }
def ExprRanksUptoCardSaid : Prop := Claim7.holds Tryz.pinned (.plain (OpenSpec.upto exprRanksSpec)) exprRanksUptoCard

/-- THE SECOND FORM's CARD OF 'rewindlaw05.ExprCuts'. -/
def exprCutsUptoCard : Claim7 := { stood := { row := exprCutsUptoRow, standIns := [], harness := (true, "ca715f62506c2620435f681d4c2b6898513c7b6f83813e974f02fa5fb22d2070"), looks := true }, kinds := [], alts := [], laidByText := true, laidKinds := [.data, .data, .data, .data, .data, .sentinel, .sentinel, .data, .data, .data], laidTests := true, laidLooks := .later }
def ExprCutsUptoCardSaid : Prop := Claim7.holds Tryz.pinned (.plain (OpenSpec.upto exprCutsSpec)) exprCutsUptoCard

/-- THE SECOND FORM's CARD OF 'rewindlaw05.ExprDeep'. -/
def exprDeepUptoCard : Claim7 := { stood := { row := exprDeepUptoRow, standIns := [], harness := (true, "ca715f62506c2620435f681d4c2b6898513c7b6f83813e974f02fa5fb22d2070"), looks := true }, kinds := [], alts := [], laidByText := true, laidKinds := [.data, .data, .data, .data, .data, .sentinel, .sentinel, .data, .data, .data], laidTests := true, laidLooks := .later }
def ExprDeepUptoCardSaid : Prop := Claim7.holds Tryz.pinned (.plain (OpenSpec.upto exprDeepSpec)) exprDeepUptoCard

/-- THE SECOND FORM's CARD OF 'rewindlaw05.ExprLists'. -/
def exprListsUptoCard : Claim7 := { stood := { row := exprListsUptoRow, standIns := [], harness := (true, "ca715f62506c2620435f681d4c2b6898513c7b6f83813e974f02fa5fb22d2070"), looks := true }, kinds := [], alts := [], laidByText := true, laidKinds := [.data, .data, .data, .data, .data, .sentinel, .sentinel, .data, .data, .data], laidTests := true, laidLooks := .later }
def ExprListsUptoCardSaid : Prop := Claim7.holds Tryz.pinned (.plain (OpenSpec.upto exprListsSpec)) exprListsUptoCard

/-- THE SECOND FORM's CARD OF 'rewindlaw05.ExprRefuses'. -/
def exprRefusesUptoCard : Claim7 := { stood := { row := exprRefusesUptoRow, standIns := [], harness := (true, "ca715f62506c2620435f681d4c2b6898513c7b6f83813e974f02fa5fb22d2070"), looks := true }, kinds := [], alts := [], laidByText := true, laidKinds := [.data, .data, .data, .data, .data, .sentinel, .sentinel, .data, .data, .data], laidTests := true, laidLooks := .later }
def ExprRefusesUptoCardSaid : Prop := Claim7.holds Tryz.pinned (.plain (OpenSpec.upto exprRefusesSpec)) exprRefusesUptoCard
end Rows
end Go.Proofs.YtiboolnampnhfaaGreatDoor
