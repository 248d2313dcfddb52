/-
  DERIVED. GIVEN WITH THE SEED: THE CARDS: each row of YthiilnhiihfknaaDoorRows.lean that lists a variable, with what it lists TIED to the program's text (the seventh form; the later family's looks); each row that meets fmt, with fmt's text TOLD by the authors' own Lean function (tested against real Go, not proved from fmt's source: count such statements apart). THE CARD IS WHAT COUNTS. Prove the row's statement (the work); the ties are given (YthiilnhiihfknaaDoorTie.lean); close each card by the builder's one call (the guide's Derived/Test/ToyasCard.lean, 'card_holds'). Laid BY PROGRAM, IN A SANDBOX (cutbox-door.mjs). By AI agents, Wed Nov 11 2026. No macro, syntax, notation, axiom, sorry.
-/
import Derived.Test.YthiilnhiihfknaaDoorRows
import GoSem.ClaimSeven
namespace Go.Proofs.YthiilnhiihfknaaDoor
namespace Rows

/-- THE TIED CARD OF 'rewindlaw03.ShapeExprs'. -/
def shapeExprsCard : Claim7 := { stood := { row := shapeExprsRow, standIns := [], harness := (true, "00a2ea4b926f14942929b59bca6c9a7b3f9b04e52bd79466936415958dd4bbb8"), looks := false }, kinds := [], alts := [], laidByText := true, laidKinds := [.data, .data, .data], laidTests := true, laidLooks := .later }
def ShapeExprsCardSaid : Prop := Claim7.holds Tryd.pinned (.plain (OpenSpec.ofChange shapeExprsSpec)) shapeExprsCard

/-- THE TIED CARD OF 'rewindlaw03.ShapePrograms'. -/
def shapeProgramsCard : Claim7 := { stood := { row := shapeProgramsRow, standIns := [], harness := (true, "00a2ea4b926f14942929b59bca6c9a7b3f9b04e52bd79466936415958dd4bbb8"), looks := false }, kinds := [], alts := [], laidByText := true, laidKinds := [.data, .data, .data], laidTests := true, laidLooks := .later }
def ShapeProgramsCardSaid : Prop := Claim7.holds Tryd.pinned (.plain (OpenSpec.ofChange shapeProgramsSpec)) shapeProgramsCard

/-- THE TIED CARD OF 'rewindlaw03.ShapeStmts'. -/
def shapeStmtsCard : Claim7 := { stood := { row := shapeStmtsRow, standIns := [], harness := (true, "00a2ea4b926f14942929b59bca6c9a7b3f9b04e52bd79466936415958dd4bbb8"), looks := false }, kinds := [], alts := [], laidByText := true, laidKinds := [.data, .data, .data], laidTests := true, laidLooks := .later }
def ShapeStmtsCardSaid : Prop := Claim7.holds Tryd.pinned (.plain (OpenSpec.ofChange shapeStmtsSpec)) shapeStmtsCard

/-- THE TIED CARD OF 'rewindlaw03.ShapeNumbers'. -/
def shapeNumbersCard : Claim7 := { stood := { row := shapeNumbersRow, standIns := [], harness := (true, "00a2ea4b926f14942929b59bca6c9a7b3f9b04e52bd79466936415958dd4bbb8"), looks := false }, kinds := [], alts := [], laidByText := true, laidKinds := [.data, .data, .data], laidTests := true, laidLooks := .later }
def ShapeNumbersCardSaid : Prop := Claim7.holds Tryd.pinned (.plain (OpenSpec.ofChange shapeNumbersSpec)) shapeNumbersCard

/-- THE TIED CARD OF 'rewindlaw03.ShapeParts'. -/
def shapePartsCard : Claim7 := { stood := { row := shapePartsRow, standIns := [], harness := (true, "00a2ea4b926f14942929b59bca6c9a7b3f9b04e52bd79466936415958dd4bbb8"), looks := false }, kinds := [], alts := [], laidByText := true, laidKinds := [.data, .data, .data], laidTests := true, laidLooks := .later }
def ShapePartsCardSaid : Prop := Claim7.holds Tryd.pinned (.plain (OpenSpec.ofChange shapePartsSpec)) shapePartsCard

/-- THE TIED CARD OF 'rewindlaw03.ShapeSpoilt'. -/
def shapeSpoiltCard : Claim7 := { stood := { row := shapeSpoiltRow, standIns := [], harness := (true, "00a2ea4b926f14942929b59bca6c9a7b3f9b04e52bd79466936415958dd4bbb8"), looks := false }, kinds := [], alts := [], laidByText := true, laidKinds := [.data, .data, .data], laidTests := true, laidLooks := .later }
def ShapeSpoiltCardSaid : Prop := Claim7.holds Tryd.pinned (.plain (OpenSpec.ofChange shapeSpoiltSpec)) shapeSpoiltCard

/-- THE TIED CARD OF 'rewindlaw03.ShapeDeep'. -/
def shapeDeepCard : Claim7 := { stood := { row := shapeDeepRow, standIns := [], harness := (true, "00a2ea4b926f14942929b59bca6c9a7b3f9b04e52bd79466936415958dd4bbb8"), looks := false }, kinds := [], alts := [], laidByText := true, laidKinds := [.data, .data, .data], laidTests := true, laidLooks := .later }
def ShapeDeepCardSaid : Prop := Claim7.holds Tryd.pinned (.plain (OpenSpec.ofChange shapeDeepSpec)) shapeDeepCard

/-- THE TIED CARD OF 'rewindlaw03.ShapeSame'. -/
def shapeSameCard : Claim7 := { stood := { row := shapeSameRow, standIns := [], harness := (true, "00a2ea4b926f14942929b59bca6c9a7b3f9b04e52bd79466936415958dd4bbb8"), looks := false }, kinds := [], alts := [], laidByText := true, laidKinds := [.data, .data, .data], laidTests := true, laidLooks := .later }
def ShapeSameCardSaid : Prop := Claim7.holds Tryd.pinned (.plain (OpenSpec.ofChange shapeSameSpec)) shapeSameCard

/-- THE SECOND FORM's CARD OF 'rewindlaw03.ShapeExprs'. -/
def shapeExprsUptoCard : Claim7 := { stood := { row := shapeExprsUptoRow, standIns := [], harness := (true, "00a2ea4b926f14942929b59bca6c9a7b3f9b04e52bd79466936415958dd4bbb8"), looks := false }, kinds := [], alts := [], laidByText := true, laidKinds := [.data, .data, .data], laidTests := true, laidLooks := .later }
def ShapeExprsUptoCardSaid : Prop := Claim7.holds Tryd.pinned (.plain (OpenSpec.upto shapeExprsSpec)) shapeExprsUptoCard

/-- THE SECOND FORM's CARD OF 'rewindlaw03.ShapePrograms'. -/
def shapeProgramsUptoCard : Claim7 := { stood := { row := shapeProgramsUptoRow, standIns := [], harness := (true, "00a2ea4b926f14942929b59bca6c9a7b3f9b04e52bd79466936415958dd4bbb8"), looks := false }, kinds := [], alts := [], laidByText := true, laidKinds := [.data, .data, .data], laidTests := true, laidLooks := .later }
def ShapeProgramsUptoCardSaid : Prop := Claim7.holds Tryd.pinned (.plain (OpenSpec.upto shapeProgramsSpec)) shapeProgramsUptoCard

/-- THE SECOND FORM's CARD OF 'rewindlaw03.ShapeStmts'. -/
def shapeStmtsUptoCard : Claim7 := { stood := { row := shapeStmtsUptoRow, standIns := [], harness := (true, "00a2ea4b926f14942929b59bca6c9a7b3f9b04e52bd79466936415958dd4bbb8"), looks := false }, kinds := [], alts := [], laidByText := true, laidKinds := [.data, .data, .data], laidTests := true, laidLooks := .later }
def ShapeStmtsUptoCardSaid : Prop := Claim7.holds Tryd.pinned (.plain (OpenSpec.upto shapeStmtsSpec)) shapeStmtsUptoCard

/-- THE SECOND FORM's CARD OF 'rewindlaw03.ShapeNumbers'. -/
def shapeNumbersUptoCard : Claim7 := { stood := { row := shapeNumbersUptoRow, standIns := [], harness := (true, "00a2ea4b926f14942929b59bca6c9a7b3f9b04e52bd79466936415958dd4bbb8"), looks := false }, kinds := [], alts := [], laidByText := true, laidKinds := [.data, .data, .data], laidTests := true, laidLooks := .later }
def ShapeNumbersUptoCardSaid : Prop := Claim7.holds Tryd.pinned (.plain (OpenSpec.upto shapeNumbersSpec)) shapeNumbersUptoCard

/-- THE SECOND FORM's CARD OF 'rewindlaw03.ShapeParts'. -/
def shapePartsUptoCard : Claim7 := { stood := { row := shapePartsUptoRow, standIns := [], harness := (true, "00a2ea4b926f14942929b59bca6c9a7b3f9b04e52bd79466936415958dd4bbb8"), looks := false }, kinds := [], alts := [], laidByText := true, laidKinds := [.data, .data, .data], laidTests := true, laidLooks := .later }
def ShapePartsUptoCardSaid : Prop := Claim7.holds Tryd.pinned (.plain (OpenSpec.upto shapePartsSpec)) shapePartsUptoCard

/-- THE SECOND FORM's CARD OF 'rewindlaw03.ShapeSpoilt'. -/
def shapeSpoiltUptoCard : Claim7 := { stood := { row := shapeSpoiltUptoRow, standIns := [], harness := (true, "00a2ea4b926f14942929b59bca6c9a7b3f9b04e52bd79466936415958dd4bbb8"), looks := false }, kinds := [], alts := [], laidByText := true, laidKinds := [.data, .data, .data], laidTests := true, laidLooks := .later }
def ShapeSpoiltUptoCardSaid : Prop := Claim7.holds Tryd.pinned (.plain (OpenSpec.upto shapeSpoiltSpec)) shapeSpoiltUptoCard

/-- THE SECOND FORM's CARD OF 'rewindlaw03.ShapeDeep'. -/
def shapeDeepUptoCard : Claim7 := { stood := { row := shapeDeepUptoRow, standIns := [], harness := (true, "00a2ea4b926f14942929b59bca6c9a7b3f9b04e52bd79466936415958dd4bbb8"), looks := false }, kinds := [], alts := [], laidByText := true, laidKinds := [.data, .data, .data], laidTests := true, laidLooks := .later }
def ShapeDeepUptoCardSaid : Prop := Claim7.holds Tryd.pinned (.plain (OpenSpec.upto shapeDeepSpec)) shapeDeepUptoCard

/-- THE SECOND FORM's CARD OF 'rewindlaw03.ShapeSame'. -/
def shapeSameUptoCard : Claim7 := { stood := { row := shapeSameUptoRow, standIns := [], harness := (true, "00a2ea4b926f14942929b59bca6c9a7b3f9b04e52bd79466936415958dd4bbb8"), looks := false }, kinds := [], alts := [], laidByText := true, laidKinds := [.data, .data, .data], laidTests := true, laidLooks := .later }
def ShapeSameUptoCardSaid : Prop := Claim7.holds Tryd.pinned (.plain (OpenSpec.upto shapeSameSpec)) shapeSameUptoCard
end Rows
end Go.Proofs.YthiilnhiihfknaaDoor
