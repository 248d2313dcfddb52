/-
  NARROWER THAN 'FOR EVERY INPUT', by the rows' own cells (each row's printed sentence says how): ShapeExprs: loops, laid · ShapePrograms: loops, laid · ShapeStmts: loops, laid · ShapeNumbers: laid · ShapeParts: laid · ShapeSpoilt: laid · ShapeDeep: laid · ShapeSame: laid.
  DERIVED. THE GIVEN ROWS OF THIS SEAT. 8 by the template 'for every input the law returns true; each argument reads behind the call as it read before'; 0 by the template 'total and deterministic' (their statements: YthiilnhiihfknaaDoorTotals.lean).
  GIVEN WITH THE SEED: the statements are not yours to turn. If you find one false, say at which input.
  Laid BY PROGRAM, IN A SANDBOX (cutbox-rows.mjs): the forced cells as the released guide's own fill.sh prints them over the translation 3b6656bb5fb1d186… (all of the seat's roots in one cut). By AI agents, Wed Nov 11 2026. No macro, syntax, notation, axiom, sorry.
-/
import Derived.Test.YthiilnhiihfknaaDoorChecked
import GoSem.Claim
import GoSem.ClaimJoined
import GoSem.ClaimMapViews
import Derived.JoinedTies
import Derived.KernelRfl
namespace Go.Proofs.YthiilnhiihfknaaDoor
/- THE CELL 'sum', in the pinned program and in every row, IS THE sha256 OF THE DUMP (.gsa) THAT YthiilnhiihfknaaDoorProg.lean LOADS. Nothing in Lean hashes anything: it is a label: what it is worth is what the hold of that sum in a sandbox is worth. -/
noncomputable def Tryd.pinned : Pinned := { name := "ythiilnhiihfknaadoor", sum := "3b6656bb5fb1d186a75977359e7ec7d1b69374df130deef0d24d7d6575aefccf", checked := Tryd.checked }
namespace Rows
def none {H : Type} : Left H := { results := [], args := [] }

/- WHAT THE LISTED PACKAGE-LEVEL VARIABLES READ AS WHEN THE CALL BEGINS. Each datum BY PROGRAM (the guide's laid-datum.mjs) off the statement by which the dump's own 'gosem.cut.vars' lays the variable. In a bare row this is a premise. The card (YthiilnhiihfknaaDoorCards.lean) ties it to the program's text. -/
def laid_rewind_shape_exprKinds {H : Type} : DataW H := .agg [.agg [.lit (.int .i64 0), .lit (.int .i64 0), .lit (.int .i64 0), .lit (.int .i64 0), .lit (.int .i64 0)], .agg [.lit (.int .i64 0), .lit (.int .i64 0), .lit (.int .i64 0), .lit (.int .i64 9223372036854775807), .lit (.int .i64 0)], .agg [.lit (.int .i64 0), .lit (.int .i64 0), .lit (.int .i64 0), .lit (.int .i64 1), .lit (.int .i64 0)], .agg [.lit (.int .i64 2), .lit (.int .i64 0), .lit (.int .i64 0), .lit (.int .i64 0), .lit (.int .i64 0)], .agg [.lit (.int .i64 0), .lit (.int .i64 14), .lit (.int .i64 15), .lit (.int .i64 0), .lit (.int .i64 1)], .agg [.lit (.int .i64 0), .lit (.int .i64 1), .lit (.int .i64 13), .lit (.int .i64 0), .lit (.int .i64 2)], .agg [.lit (.int .i64 2), .lit (.int .i64 0), .lit (.int .i64 0), .lit (.int .i64 0), .lit (.int .i64 1)], .agg [.lit (.int .i64 2), .lit (.int .i64 0), .lit (.int .i64 0), .lit (.int .i64 0), .lit (.int .i64 0)]]
def laid_rewind_shape_stmtKinds {H : Type} : DataW H := .agg [.agg [.lit (.int .i64 0), .lit (.int .i64 0), .lit (.bool false), .lit (.int .i64 0), .lit (.int .i64 0), .lit (.bool false), .lit (.bool false)], .agg [.lit (.int .i64 2), .lit (.int .i64 0), .lit (.bool true), .lit (.int .i64 0), .lit (.int .i64 1), .lit (.bool false), .lit (.bool false)], .agg [.lit (.int .i64 2), .lit (.int .i64 0), .lit (.bool false), .lit (.int .i64 1), .lit (.int .i64 1), .lit (.bool false), .lit (.bool false)], .agg [.lit (.int .i64 2), .lit (.int .i64 0), .lit (.bool false), .lit (.int .i64 2), .lit (.int .i64 2), .lit (.bool false), .lit (.bool false)], .agg [.lit (.int .i64 2), .lit (.int .i64 0), .lit (.bool false), .lit (.int .i64 1), .lit (.int .i64 1), .lit (.bool false), .lit (.bool false)], .agg [.lit (.int .i64 2), .lit (.int .i64 0), .lit (.bool false), .lit (.int .i64 0), .lit (.int .i64 0), .lit (.bool false), .lit (.bool false)], .agg [.lit (.int .i64 0), .lit (.int .i64 0), .lit (.bool false), .lit (.int .i64 1), .lit (.int .i64 1), .lit (.bool false), .lit (.bool false)], .agg [.lit (.int .i64 1), .lit (.int .i64 2), .lit (.bool false), .lit (.int .i64 0), .lit (.int .i64 8), .lit (.bool false), .lit (.bool false)], .agg [.lit (.int .i64 0), .lit (.int .i64 0), .lit (.bool false), .lit (.int .i64 0), .lit (.int .i64 1), .lit (.bool false), .lit (.bool false)], .agg [.lit (.int .i64 0), .lit (.int .i64 0), .lit (.bool false), .lit (.int .i64 1), .lit (.int .i64 1), .lit (.bool true), .lit (.bool true)], .agg [.lit (.int .i64 0), .lit (.int .i64 0), .lit (.bool false), .lit (.int .i64 1), .lit (.int .i64 1), .lit (.bool true), .lit (.bool false)]]
def laid_rewind_shape_keywords {H : Type} : DataW H := .agg [.lit (.string [102, 117, 110, 99]), .lit (.string [118, 97, 114]), .lit (.string [105, 102]), .lit (.string [101, 108, 115, 101]), .lit (.string [119, 104, 105, 108, 101]), .lit (.string [114, 101, 116, 117, 114, 110]), .lit (.string [112, 114, 105, 110, 116]), .lit (.string [114, 101, 97, 100]), .lit (.string [110, 101, 119]), .lit (.string [108, 101, 110]), .lit (.string [105, 110, 116]), .lit (.string [98, 111, 111, 108]), .lit (.string [97, 114, 114, 97, 121]), .lit (.string [116, 114, 117, 101]), .lit (.string [102, 97, 108, 115, 101])]

/-- 'rewindlaw03.ShapeExprs': WHATEVER THE INPUT: true; the input reads as it did. -/
def shapeExprsSpec : ChangeSpec := { name := "shapeExprs", fn := fun _ => fun
  | [d1, d2, d3] => { results := [.lit (.bool true)], args := [d1, d2, d3] }
  | _ => none }
def shapeExprsRow : OpenClaim := { program := "ythiilnhiihfknaadoor", sum := "3b6656bb5fb1d186a75977359e7ec7d1b69374df130deef0d24d7d6575aefccf", func := "rewind/rewindlaw03.ShapeExprs", spec := "shapeExprs", unfollowed := true, recurses := true, named := ["rewind/shape.keywords", "rewind/shape.exprKinds", "rewind/shape.stmtKinds"], loops := true, apart := false, laid := [("rewind/shape.exprKinds", laid_rewind_shape_exprKinds), ("rewind/shape.stmtKinds", laid_rewind_shape_stmtKinds), ("rewind/shape.keywords", laid_rewind_shape_keywords)] }
def ShapeExprsSaid : Prop := shapeExprsRow.holds Tryd.pinned (OpenSpec.ofChange shapeExprsSpec)

/-- ITS FALSE NEIGHBOUR: 'it returns false'. Refute it at one input. -/
def shapeExprsWrong : ChangeSpec := { name := "shapeExprs", fn := fun _ => fun
  | [d1, d2, d3] => { results := [.lit (.bool false)], args := [d1, d2, d3] }
  | _ => none }
def ShapeExprsWrongFalsely : Prop := shapeExprsRow.holds Tryd.pinned (OpenSpec.ofChange shapeExprsWrong)

/-- 'rewindlaw03.ShapePrograms': WHATEVER THE INPUT: true; the input reads as it did. -/
def shapeProgramsSpec : ChangeSpec := { name := "shapePrograms", fn := fun _ => fun
  | [d1, d2] => { results := [.lit (.bool true)], args := [d1, d2] }
  | _ => none }
def shapeProgramsRow : OpenClaim := { program := "ythiilnhiihfknaadoor", sum := "3b6656bb5fb1d186a75977359e7ec7d1b69374df130deef0d24d7d6575aefccf", func := "rewind/rewindlaw03.ShapePrograms", spec := "shapePrograms", unfollowed := true, recurses := true, named := ["rewind/shape.keywords", "rewind/shape.exprKinds", "rewind/shape.stmtKinds"], loops := true, apart := false, laid := [("rewind/shape.exprKinds", laid_rewind_shape_exprKinds), ("rewind/shape.stmtKinds", laid_rewind_shape_stmtKinds), ("rewind/shape.keywords", laid_rewind_shape_keywords)] }
def ShapeProgramsSaid : Prop := shapeProgramsRow.holds Tryd.pinned (OpenSpec.ofChange shapeProgramsSpec)

/-- ITS FALSE NEIGHBOUR: 'it returns false'. Refute it at one input. -/
def shapeProgramsWrong : ChangeSpec := { name := "shapePrograms", fn := fun _ => fun
  | [d1, d2] => { results := [.lit (.bool false)], args := [d1, d2] }
  | _ => none }
def ShapeProgramsWrongFalsely : Prop := shapeProgramsRow.holds Tryd.pinned (OpenSpec.ofChange shapeProgramsWrong)

/-- 'rewindlaw03.ShapeStmts': WHATEVER THE INPUT: true; the input reads as it did. -/
def shapeStmtsSpec : ChangeSpec := { name := "shapeStmts", fn := fun _ => fun
  | [d1, d2] => { results := [.lit (.bool true)], args := [d1, d2] }
  | _ => none }
def shapeStmtsRow : OpenClaim := { program := "ythiilnhiihfknaadoor", sum := "3b6656bb5fb1d186a75977359e7ec7d1b69374df130deef0d24d7d6575aefccf", func := "rewind/rewindlaw03.ShapeStmts", spec := "shapeStmts", unfollowed := true, recurses := true, named := ["rewind/shape.keywords", "rewind/shape.exprKinds", "rewind/shape.stmtKinds"], loops := true, apart := false, laid := [("rewind/shape.exprKinds", laid_rewind_shape_exprKinds), ("rewind/shape.stmtKinds", laid_rewind_shape_stmtKinds), ("rewind/shape.keywords", laid_rewind_shape_keywords)] }
def ShapeStmtsSaid : Prop := shapeStmtsRow.holds Tryd.pinned (OpenSpec.ofChange shapeStmtsSpec)

/-- ITS FALSE NEIGHBOUR: 'it returns false'. Refute it at one input. -/
def shapeStmtsWrong : ChangeSpec := { name := "shapeStmts", fn := fun _ => fun
  | [d1, d2] => { results := [.lit (.bool false)], args := [d1, d2] }
  | _ => none }
def ShapeStmtsWrongFalsely : Prop := shapeStmtsRow.holds Tryd.pinned (OpenSpec.ofChange shapeStmtsWrong)

/-- 'rewindlaw03.ShapeNumbers': WHATEVER THE INPUT: true; the input reads as it did. -/
def shapeNumbersSpec : ChangeSpec := { name := "shapeNumbers", fn := fun _ => fun
  | [d1, d2, d3] => { results := [.lit (.bool true)], args := [d1, d2, d3] }
  | _ => none }
def shapeNumbersRow : OpenClaim := { program := "ythiilnhiihfknaadoor", sum := "3b6656bb5fb1d186a75977359e7ec7d1b69374df130deef0d24d7d6575aefccf", func := "rewind/rewindlaw03.ShapeNumbers", spec := "shapeNumbers", unfollowed := true, recurses := true, named := ["rewind/shape.keywords", "rewind/shape.stmtKinds", "rewind/shape.exprKinds"], apart := false, laid := [("rewind/shape.exprKinds", laid_rewind_shape_exprKinds), ("rewind/shape.stmtKinds", laid_rewind_shape_stmtKinds), ("rewind/shape.keywords", laid_rewind_shape_keywords)] }
def ShapeNumbersSaid : Prop := shapeNumbersRow.holds Tryd.pinned (OpenSpec.ofChange shapeNumbersSpec)

/-- ITS FALSE NEIGHBOUR: 'it returns false'. Refute it at one input. -/
def shapeNumbersWrong : ChangeSpec := { name := "shapeNumbers", fn := fun _ => fun
  | [d1, d2, d3] => { results := [.lit (.bool false)], args := [d1, d2, d3] }
  | _ => none }
def ShapeNumbersWrongFalsely : Prop := shapeNumbersRow.holds Tryd.pinned (OpenSpec.ofChange shapeNumbersWrong)

/-- 'rewindlaw03.ShapeParts': WHATEVER THE INPUT: true; the input reads as it did. -/
def shapePartsSpec : ChangeSpec := { name := "shapeParts", fn := fun _ => fun
  | [d] => { results := [.lit (.bool true)], args := [d] }
  | _ => none }
def shapePartsRow : OpenClaim := { program := "ythiilnhiihfknaadoor", sum := "3b6656bb5fb1d186a75977359e7ec7d1b69374df130deef0d24d7d6575aefccf", func := "rewind/rewindlaw03.ShapeParts", spec := "shapeParts", unfollowed := true, recurses := true, named := ["rewind/shape.exprKinds", "rewind/shape.keywords", "rewind/shape.stmtKinds"], apart := false, laid := [("rewind/shape.exprKinds", laid_rewind_shape_exprKinds), ("rewind/shape.stmtKinds", laid_rewind_shape_stmtKinds), ("rewind/shape.keywords", laid_rewind_shape_keywords)] }
def ShapePartsSaid : Prop := shapePartsRow.holds Tryd.pinned (OpenSpec.ofChange shapePartsSpec)

/-- ITS FALSE NEIGHBOUR: 'it returns false'. Refute it at one input. -/
def shapePartsWrong : ChangeSpec := { name := "shapeParts", fn := fun _ => fun
  | [d] => { results := [.lit (.bool false)], args := [d] }
  | _ => none }
def ShapePartsWrongFalsely : Prop := shapePartsRow.holds Tryd.pinned (OpenSpec.ofChange shapePartsWrong)

/-- 'rewindlaw03.ShapeSpoilt': WHATEVER THE INPUT: true; the input reads as it did. -/
def shapeSpoiltSpec : ChangeSpec := { name := "shapeSpoilt", fn := fun _ => fun
  | [d1, d2, d3] => { results := [.lit (.bool true)], args := [d1, d2, d3] }
  | _ => none }
def shapeSpoiltRow : OpenClaim := { program := "ythiilnhiihfknaadoor", sum := "3b6656bb5fb1d186a75977359e7ec7d1b69374df130deef0d24d7d6575aefccf", func := "rewind/rewindlaw03.ShapeSpoilt", spec := "shapeSpoilt", inPlace := ["internal/abi.NoEscape", "internal/bytealg.MakeNoZero"], unfollowed := true, recurses := true, named := ["rewind/shape.stmtKinds", "rewind/shape.keywords", "rewind/shape.exprKinds"], apart := false, laid := [("rewind/shape.exprKinds", laid_rewind_shape_exprKinds), ("rewind/shape.stmtKinds", laid_rewind_shape_stmtKinds), ("rewind/shape.keywords", laid_rewind_shape_keywords)] }
def ShapeSpoiltSaid : Prop := shapeSpoiltRow.holds Tryd.pinned (OpenSpec.ofChange shapeSpoiltSpec)

/-- ITS FALSE NEIGHBOUR: 'it returns false'. Refute it at one input. -/
def shapeSpoiltWrong : ChangeSpec := { name := "shapeSpoilt", fn := fun _ => fun
  | [d1, d2, d3] => { results := [.lit (.bool false)], args := [d1, d2, d3] }
  | _ => none }
def ShapeSpoiltWrongFalsely : Prop := shapeSpoiltRow.holds Tryd.pinned (OpenSpec.ofChange shapeSpoiltWrong)

/-- 'rewindlaw03.ShapeDeep': WHATEVER THE INPUT: true; the input reads as it did. -/
def shapeDeepSpec : ChangeSpec := { name := "shapeDeep", fn := fun _ => fun
  | [d1, d2] => { results := [.lit (.bool true)], args := [d1, d2] }
  | _ => none }
def shapeDeepRow : OpenClaim := { program := "ythiilnhiihfknaadoor", sum := "3b6656bb5fb1d186a75977359e7ec7d1b69374df130deef0d24d7d6575aefccf", func := "rewind/rewindlaw03.ShapeDeep", spec := "shapeDeep", unfollowed := true, recurses := true, named := ["rewind/shape.keywords", "rewind/shape.stmtKinds", "rewind/shape.exprKinds"], apart := false, laid := [("rewind/shape.exprKinds", laid_rewind_shape_exprKinds), ("rewind/shape.stmtKinds", laid_rewind_shape_stmtKinds), ("rewind/shape.keywords", laid_rewind_shape_keywords)] }
def ShapeDeepSaid : Prop := shapeDeepRow.holds Tryd.pinned (OpenSpec.ofChange shapeDeepSpec)

/-- ITS FALSE NEIGHBOUR: 'it returns false'. Refute it at one input. -/
def shapeDeepWrong : ChangeSpec := { name := "shapeDeep", fn := fun _ => fun
  | [d1, d2] => { results := [.lit (.bool false)], args := [d1, d2] }
  | _ => none }
def ShapeDeepWrongFalsely : Prop := shapeDeepRow.holds Tryd.pinned (OpenSpec.ofChange shapeDeepWrong)

/-- 'rewindlaw03.ShapeSame': WHATEVER THE INPUT: true; the input reads as it did. -/
def shapeSameSpec : ChangeSpec := { name := "shapeSame", fn := fun _ => fun
  | [d1, d2, d3, d4] => { results := [.lit (.bool true)], args := [d1, d2, d3, d4] }
  | _ => none }
def shapeSameRow : OpenClaim := { program := "ythiilnhiihfknaadoor", sum := "3b6656bb5fb1d186a75977359e7ec7d1b69374df130deef0d24d7d6575aefccf", func := "rewind/rewindlaw03.ShapeSame", spec := "shapeSame", unfollowed := true, recurses := true, named := ["rewind/shape.keywords", "rewind/shape.stmtKinds", "rewind/shape.exprKinds"], apart := false, laid := [("rewind/shape.exprKinds", laid_rewind_shape_exprKinds), ("rewind/shape.stmtKinds", laid_rewind_shape_stmtKinds), ("rewind/shape.keywords", laid_rewind_shape_keywords)] }
def ShapeSameSaid : Prop := shapeSameRow.holds Tryd.pinned (OpenSpec.ofChange shapeSameSpec)

/-- ITS FALSE NEIGHBOUR: 'it returns false'. Refute it at one input. -/
def shapeSameWrong : ChangeSpec := { name := "shapeSame", fn := fun _ => fun
  | [d1, d2, d3, d4] => { results := [.lit (.bool false)], args := [d1, d2, d3, d4] }
  | _ => none }
def ShapeSameWrongFalsely : Prop := shapeSameRow.holds Tryd.pinned (OpenSpec.ofChange shapeSameWrong)

/- THE SECOND FORM. 'bulk': how many values and letters a reading holds, each counted each time it is reached (what is shared counts as often as it is met; a slice's spare places count too). A statement '..UptoSaid' is the law's where the arguments, and the package variables that the reading takes, are together of bulk at most 1048576: NARROWER than '..Said'. Prove '..Said' where nothing that the law and all that it calls make is longer than what came in: it says more and counts as full. Else prove '..UptoSaid'. A law counts once. -/
mutual
def uptoBulk {H : Type} : DataW H → Nat
  | .lit (.string bytes) => bytes.length + 1
  | .lit _ => 1
  | .nil => 1
  | .ptr d => uptoBulk d + 1
  | .slice elems spare => uptoBulkAll elems + uptoBulkAll spare + 1
  | .agg parts => uptoBulkAll parts + 1
  | .iface _ d => uptoBulk d + 1
  | .map entries => uptoBulkEntries entries + 1
  | .held _ => 1
def uptoBulkAll {H : Type} : List (DataW H) → Nat
  | [] => 0
  | d :: r => uptoBulk d + uptoBulkAll r
def uptoBulkEntries {H : Type} : List (Lit × DataW H) → Nat
  | [] => 0
  | x :: r => uptoBulkEntry x + uptoBulkEntries r
def uptoBulkEntry {H : Type} : Lit × DataW H → Nat
  | (.string bytes, d) => bytes.length + uptoBulk d + 1
  | (_, d) => uptoBulk d + 1
 end
def uptoSmall : (H : Type) → List (DataW H) → Bool := fun _ ds => decide (uptoBulkAll ds ≤ 1048576)
def OpenSpec.upto (s : _root_.Go.ChangeSpec) : _root_.Go.OpenSpec := { _root_.Go.OpenSpec.ofChange s with cond := some uptoSmall }

/-- 'rewindlaw03.ShapeExprs', WHERE WHAT IT READS IS OF BULK AT MOST 1048576: true; the input reads as it did. -/
def shapeExprsUptoRow : OpenClaim := { program := "ythiilnhiihfknaadoor", sum := "3b6656bb5fb1d186a75977359e7ec7d1b69374df130deef0d24d7d6575aefccf", func := "rewind/rewindlaw03.ShapeExprs", spec := "shapeExprs", unfollowed := true, recurses := true, named := ["rewind/shape.keywords", "rewind/shape.exprKinds", "rewind/shape.stmtKinds"], loops := true, apart := false, laid := [("rewind/shape.exprKinds", laid_rewind_shape_exprKinds), ("rewind/shape.stmtKinds", laid_rewind_shape_stmtKinds), ("rewind/shape.keywords", laid_rewind_shape_keywords)], narrowed := true }
def ShapeExprsUptoSaid : Prop := shapeExprsUptoRow.holds Tryd.pinned (OpenSpec.upto shapeExprsSpec)

/-- 'rewindlaw03.ShapePrograms', WHERE WHAT IT READS IS OF BULK AT MOST 1048576: true; the input reads as it did. -/
def shapeProgramsUptoRow : OpenClaim := { program := "ythiilnhiihfknaadoor", sum := "3b6656bb5fb1d186a75977359e7ec7d1b69374df130deef0d24d7d6575aefccf", func := "rewind/rewindlaw03.ShapePrograms", spec := "shapePrograms", unfollowed := true, recurses := true, named := ["rewind/shape.keywords", "rewind/shape.exprKinds", "rewind/shape.stmtKinds"], loops := true, apart := false, laid := [("rewind/shape.exprKinds", laid_rewind_shape_exprKinds), ("rewind/shape.stmtKinds", laid_rewind_shape_stmtKinds), ("rewind/shape.keywords", laid_rewind_shape_keywords)], narrowed := true }
def ShapeProgramsUptoSaid : Prop := shapeProgramsUptoRow.holds Tryd.pinned (OpenSpec.upto shapeProgramsSpec)

/-- 'rewindlaw03.ShapeStmts', WHERE WHAT IT READS IS OF BULK AT MOST 1048576: true; the input reads as it did. -/
def shapeStmtsUptoRow : OpenClaim := { program := "ythiilnhiihfknaadoor", sum := "3b6656bb5fb1d186a75977359e7ec7d1b69374df130deef0d24d7d6575aefccf", func := "rewind/rewindlaw03.ShapeStmts", spec := "shapeStmts", unfollowed := true, recurses := true, named := ["rewind/shape.keywords", "rewind/shape.exprKinds", "rewind/shape.stmtKinds"], loops := true, apart := false, laid := [("rewind/shape.exprKinds", laid_rewind_shape_exprKinds), ("rewind/shape.stmtKinds", laid_rewind_shape_stmtKinds), ("rewind/shape.keywords", laid_rewind_shape_keywords)], narrowed := true }
def ShapeStmtsUptoSaid : Prop := shapeStmtsUptoRow.holds Tryd.pinned (OpenSpec.upto shapeStmtsSpec)

/-- 'rewindlaw03.ShapeNumbers', WHERE WHAT IT READS IS OF BULK AT MOST 1048576: true; the input reads as it did. -/
def shapeNumbersUptoRow : OpenClaim := { program := "ythiilnhiihfknaadoor", sum := "3b6656bb5fb1d186a75977359e7ec7d1b69374df130deef0d24d7d6575aefccf", func := "rewind/rewindlaw03.ShapeNumbers", spec := "shapeNumbers", unfollowed := true, recurses := true, named := ["rewind/shape.keywords", "rewind/shape.stmtKinds", "rewind/shape.exprKinds"], apart := false, laid := [("rewind/shape.exprKinds", laid_rewind_shape_exprKinds), ("rewind/shape.stmtKinds", laid_rewind_shape_stmtKinds), ("rewind/shape.keywords", laid_rewind_shape_keywords)], narrowed := true }
def ShapeNumbersUptoSaid : Prop := shapeNumbersUptoRow.holds Tryd.pinned (OpenSpec.upto shapeNumbersSpec)

/-- 'rewindlaw03.ShapeParts', WHERE WHAT IT READS IS OF BULK AT MOST 1048576: true; the input reads as it did. -/
def shapePartsUptoRow : OpenClaim := { program := "ythiilnhiihfknaadoor", sum := "3b6656bb5fb1d186a75977359e7ec7d1b69374df130deef0d24d7d6575aefccf", func := "rewind/rewindlaw03.ShapeParts", spec := "shapeParts", unfollowed := true, recurses := true, named := ["rewind/shape.exprKinds", "rewind/shape.keywords", "rewind/shape.stmtKinds"], apart := false, laid := [("rewind/shape.exprKinds", laid_rewind_shape_exprKinds), ("rewind/shape.stmtKinds", laid_rewind_shape_stmtKinds), ("rewind/shape.keywords", laid_rewind_shape_keywords)], narrowed := true }
def ShapePartsUptoSaid : Prop := shapePartsUptoRow.holds Tryd.pinned (OpenSpec.upto shapePartsSpec)

/-- 'rewindlaw03.ShapeSpoilt', WHERE WHAT IT READS IS OF BULK AT MOST 1048576: true; the input reads as it did. -/
def shapeSpoiltUptoRow : OpenClaim := { program := "ythiilnhiihfknaadoor", sum := "3b6656bb5fb1d186a75977359e7ec7d1b69374df130deef0d24d7d6575aefccf", func := "rewind/rewindlaw03.ShapeSpoilt", spec := "shapeSpoilt", inPlace := ["internal/abi.NoEscape", "internal/bytealg.MakeNoZero"], unfollowed := true, recurses := true, named := ["rewind/shape.stmtKinds", "rewind/shape.keywords", "rewind/shape.exprKinds"], apart := false, laid := [("rewind/shape.exprKinds", laid_rewind_shape_exprKinds), ("rewind/shape.stmtKinds", laid_rewind_shape_stmtKinds), ("rewind/shape.keywords", laid_rewind_shape_keywords)], narrowed := true }
def ShapeSpoiltUptoSaid : Prop := shapeSpoiltUptoRow.holds Tryd.pinned (OpenSpec.upto shapeSpoiltSpec)

/-- 'rewindlaw03.ShapeDeep', WHERE WHAT IT READS IS OF BULK AT MOST 1048576: true; the input reads as it did. -/
def shapeDeepUptoRow : OpenClaim := { program := "ythiilnhiihfknaadoor", sum := "3b6656bb5fb1d186a75977359e7ec7d1b69374df130deef0d24d7d6575aefccf", func := "rewind/rewindlaw03.ShapeDeep", spec := "shapeDeep", unfollowed := true, recurses := true, named := ["rewind/shape.keywords", "rewind/shape.stmtKinds", "rewind/shape.exprKinds"], apart := false, laid := [("rewind/shape.exprKinds", laid_rewind_shape_exprKinds), ("rewind/shape.stmtKinds", laid_rewind_shape_stmtKinds), ("rewind/shape.keywords", laid_rewind_shape_keywords)], narrowed := true }
def ShapeDeepUptoSaid : Prop := shapeDeepUptoRow.holds Tryd.pinned (OpenSpec.upto shapeDeepSpec)

/-- 'rewindlaw03.ShapeSame', WHERE WHAT IT READS IS OF BULK AT MOST 1048576: true; the input reads as it did. -/
def shapeSameUptoRow : OpenClaim := { program := "ythiilnhiihfknaadoor", sum := "3b6656bb5fb1d186a75977359e7ec7d1b69374df130deef0d24d7d6575aefccf", func := "rewind/rewindlaw03.ShapeSame", spec := "shapeSame", unfollowed := true, recurses := true, named := ["rewind/shape.keywords", "rewind/shape.stmtKinds", "rewind/shape.exprKinds"], apart := false, laid := [("rewind/shape.exprKinds", laid_rewind_shape_exprKinds), ("rewind/shape.stmtKinds", laid_rewind_shape_stmtKinds), ("rewind/shape.keywords", laid_rewind_shape_keywords)], narrowed := true }
def ShapeSameUptoSaid : Prop := shapeSameUptoRow.holds Tryd.pinned (OpenSpec.upto shapeSameSpec)

end Rows
end Go.Proofs.YthiilnhiihfknaaDoor
