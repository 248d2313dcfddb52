/-
  NARROWER THAN 'FOR EVERY INPUT', by the rows' own cells (each row's printed sentence says how): ExprOps: laid · ExprBack: laid · ExprRanks: laid · ExprCuts: laid · ExprDeep: laid · ExprRefuses: laid · StmtParses: laid · StmtWords: laid · StmtForms: laid · StmtNeeded: laid · StmtTypes: laid · StmtRefuses: laid.
  DERIVED. THE GIVEN ROWS OF THIS SEAT. 12 by the template 'for every input the law returns true; each argument reads behind the call as it read before'; 0 by the template 'total and deterministic' (their statements: YtoldhocdfkndbaaGreatDoorTotals.lean).
  GIVEN WITH THE SEED: the statements are not yours to turn. If you find one false, say at which input.
  Laid BY PROGRAM, IN A SANDBOX (cutbox-rows.mjs): the forced cells as the released guide's own fill.sh prints them over the translation 0e33471abbb823e3… (all of the seat's roots in one cut). By AI agents, Wed Nov 11 2026. No macro, syntax, notation, axiom, sorry.
-/
import Derived.Test.YtoldhocdfkndbaaGreatDoorChecked
import GoSem.Claim
import GoSem.ClaimJoined
import GoSem.ClaimMapViews
import Derived.JoinedTies
import Derived.KernelRfl
namespace Go.Proofs.YtoldhocdfkndbaaGreatDoor
/- THE CELL 'sum', in the pinned program and in every row, IS THE sha256 OF THE DUMP (.gsa) THAT YtoldhocdfkndbaaGreatDoorProg.lean LOADS. Nothing in Lean hashes anything: it is a label: what it is worth is what the hold of that sum in a sandbox is worth. -/
noncomputable def Tryz.pinned : Pinned := { name := "ytoldhocdfkndbaagreatdoor", sum := "0e33471abbb823e38bd8b765016d050f8a0272f19982423044bcd6806fd334f2", checked := Tryz.checked }
namespace Rows
def none {H : Type} : Left H := { results := [], args := [] }

/- WHAT THE LISTED PACKAGE-LEVEL VARIABLES READ AS WHEN THE CALL BEGINS. Each datum BY PROGRAM (the guide's laid-datum.mjs) off the statement by which the dump's own 'gosem.cut.vars' lays the variable. In a bare row this is a premise. The card (YtoldhocdfkndbaaGreatDoorCards.lean) ties it to the program's text. -/
def laid_math_bits_deBruijn32tab {H : Type} : DataW H := .agg [.lit (.int .u8 0), .lit (.int .u8 1), .lit (.int .u8 28), .lit (.int .u8 2), .lit (.int .u8 29), .lit (.int .u8 14), .lit (.int .u8 24), .lit (.int .u8 3), .lit (.int .u8 30), .lit (.int .u8 22), .lit (.int .u8 20), .lit (.int .u8 15), .lit (.int .u8 25), .lit (.int .u8 17), .lit (.int .u8 4), .lit (.int .u8 8), .lit (.int .u8 31), .lit (.int .u8 27), .lit (.int .u8 13), .lit (.int .u8 23), .lit (.int .u8 21), .lit (.int .u8 19), .lit (.int .u8 16), .lit (.int .u8 7), .lit (.int .u8 26), .lit (.int .u8 12), .lit (.int .u8 18), .lit (.int .u8 6), .lit (.int .u8 11), .lit (.int .u8 5), .lit (.int .u8 10), .lit (.int .u8 9)]
def laid_math_bits_deBruijn64tab {H : Type} : DataW H := .agg [.lit (.int .u8 0), .lit (.int .u8 1), .lit (.int .u8 56), .lit (.int .u8 2), .lit (.int .u8 57), .lit (.int .u8 49), .lit (.int .u8 28), .lit (.int .u8 3), .lit (.int .u8 61), .lit (.int .u8 58), .lit (.int .u8 42), .lit (.int .u8 50), .lit (.int .u8 38), .lit (.int .u8 29), .lit (.int .u8 17), .lit (.int .u8 4), .lit (.int .u8 62), .lit (.int .u8 47), .lit (.int .u8 59), .lit (.int .u8 36), .lit (.int .u8 45), .lit (.int .u8 43), .lit (.int .u8 51), .lit (.int .u8 22), .lit (.int .u8 53), .lit (.int .u8 39), .lit (.int .u8 33), .lit (.int .u8 30), .lit (.int .u8 24), .lit (.int .u8 18), .lit (.int .u8 12), .lit (.int .u8 5), .lit (.int .u8 63), .lit (.int .u8 55), .lit (.int .u8 48), .lit (.int .u8 27), .lit (.int .u8 60), .lit (.int .u8 41), .lit (.int .u8 37), .lit (.int .u8 16), .lit (.int .u8 46), .lit (.int .u8 35), .lit (.int .u8 44), .lit (.int .u8 21), .lit (.int .u8 52), .lit (.int .u8 32), .lit (.int .u8 23), .lit (.int .u8 11), .lit (.int .u8 54), .lit (.int .u8 26), .lit (.int .u8 40), .lit (.int .u8 15), .lit (.int .u8 34), .lit (.int .u8 20), .lit (.int .u8 31), .lit (.int .u8 10), .lit (.int .u8 25), .lit (.int .u8 14), .lit (.int .u8 19), .lit (.int .u8 9), .lit (.int .u8 13), .lit (.int .u8 8), .lit (.int .u8 7), .lit (.int .u8 6)]
def laid_internal_strconv_uint64pow10 {H : Type} : DataW H := .agg [.lit (.int .u64 1), .lit (.int .u64 10), .lit (.int .u64 100), .lit (.int .u64 1000), .lit (.int .u64 10000), .lit (.int .u64 100000), .lit (.int .u64 1000000), .lit (.int .u64 10000000), .lit (.int .u64 100000000), .lit (.int .u64 1000000000), .lit (.int .u64 10000000000), .lit (.int .u64 100000000000), .lit (.int .u64 1000000000000), .lit (.int .u64 10000000000000), .lit (.int .u64 100000000000000), .lit (.int .u64 1000000000000000), .lit (.int .u64 10000000000000000), .lit (.int .u64 100000000000000000), .lit (.int .u64 1000000000000000000), .lit (.int .u64 10000000000000000000)]
def laid_rewind_shape_exprKinds {H : Type} : DataW H := .agg [.agg [.lit (.int .i64 0), .lit (.int .i64 0), .lit (.int .i64 0), .lit (.int .i64 0), .lit (.int .i64 0)], .agg [.lit (.int .i64 0), .lit (.int .i64 0), .lit (.int .i64 0), .lit (.int .i64 9223372036854775807), .lit (.int .i64 0)], .agg [.lit (.int .i64 0), .lit (.int .i64 0), .lit (.int .i64 0), .lit (.int .i64 1), .lit (.int .i64 0)], .agg [.lit (.int .i64 2), .lit (.int .i64 0), .lit (.int .i64 0), .lit (.int .i64 0), .lit (.int .i64 0)], .agg [.lit (.int .i64 0), .lit (.int .i64 14), .lit (.int .i64 15), .lit (.int .i64 0), .lit (.int .i64 1)], .agg [.lit (.int .i64 0), .lit (.int .i64 1), .lit (.int .i64 13), .lit (.int .i64 0), .lit (.int .i64 2)], .agg [.lit (.int .i64 2), .lit (.int .i64 0), .lit (.int .i64 0), .lit (.int .i64 0), .lit (.int .i64 1)], .agg [.lit (.int .i64 2), .lit (.int .i64 0), .lit (.int .i64 0), .lit (.int .i64 0), .lit (.int .i64 0)]]
def laid_rewind_shape_keywords {H : Type} : DataW H := .agg [.lit (.string [102, 117, 110, 99]), .lit (.string [118, 97, 114]), .lit (.string [105, 102]), .lit (.string [101, 108, 115, 101]), .lit (.string [119, 104, 105, 108, 101]), .lit (.string [114, 101, 116, 117, 114, 110]), .lit (.string [112, 114, 105, 110, 116]), .lit (.string [114, 101, 97, 100]), .lit (.string [110, 101, 119]), .lit (.string [108, 101, 110]), .lit (.string [105, 110, 116]), .lit (.string [98, 111, 111, 108]), .lit (.string [97, 114, 114, 97, 121]), .lit (.string [116, 114, 117, 101]), .lit (.string [102, 97, 108, 115, 101])]
def laid_strconv_ErrRange {H : Type} : DataW H := .iface "*errors.errorString" (.ptr (.agg [.lit (.string [118, 97, 108, 117, 101, 32, 111, 117, 116, 32, 111, 102, 32, 114, 97, 110, 103, 101])]))
def laid_strconv_ErrSyntax {H : Type} : DataW H := .iface "*errors.errorString" (.ptr (.agg [.lit (.string [105, 110, 118, 97, 108, 105, 100, 32, 115, 121, 110, 116, 97, 120])]))
def laid_rewind_lexeme_keywords {H : Type} : DataW H := .agg [.lit (.string [102, 117, 110, 99]), .lit (.string [118, 97, 114]), .lit (.string [105, 102]), .lit (.string [101, 108, 115, 101]), .lit (.string [119, 104, 105, 108, 101]), .lit (.string [114, 101, 116, 117, 114, 110]), .lit (.string [112, 114, 105, 110, 116]), .lit (.string [114, 101, 97, 100]), .lit (.string [110, 101, 119]), .lit (.string [108, 101, 110]), .lit (.string [105, 110, 116]), .lit (.string [98, 111, 111, 108]), .lit (.string [97, 114, 114, 97, 121]), .lit (.string [116, 114, 117, 101]), .lit (.string [102, 97, 108, 115, 101])]
def laid_rewind_lexeme_signs {H : Type} : DataW H := .agg [.lit (.string [124, 124]), .lit (.string [38, 38]), .lit (.string [61, 61]), .lit (.string [33, 61]), .lit (.string [60, 61]), .lit (.string [62, 61]), .lit (.string [40]), .lit (.string [41]), .lit (.string [123]), .lit (.string [125]), .lit (.string [91]), .lit (.string [93]), .lit (.string [44]), .lit (.string [59]), .lit (.string [61]), .lit (.string [60]), .lit (.string [62]), .lit (.string [43]), .lit (.string [45]), .lit (.string [42]), .lit (.string [47]), .lit (.string [37]), .lit (.string [33])]
def laid_rewind_expr_operators {H : Type} : DataW H := .agg [.agg [.lit (.string [124, 124]), .lit (.int .i64 13), .lit (.int .i64 1)], .agg [.lit (.string [38, 38]), .lit (.int .i64 12), .lit (.int .i64 2)], .agg [.lit (.string [61, 61]), .lit (.int .i64 6), .lit (.int .i64 3)], .agg [.lit (.string [33, 61]), .lit (.int .i64 7), .lit (.int .i64 3)], .agg [.lit (.string [60]), .lit (.int .i64 8), .lit (.int .i64 3)], .agg [.lit (.string [60, 61]), .lit (.int .i64 9), .lit (.int .i64 3)], .agg [.lit (.string [62]), .lit (.int .i64 10), .lit (.int .i64 3)], .agg [.lit (.string [62, 61]), .lit (.int .i64 11), .lit (.int .i64 3)], .agg [.lit (.string [43]), .lit (.int .i64 1), .lit (.int .i64 4)], .agg [.lit (.string [45]), .lit (.int .i64 2), .lit (.int .i64 4)], .agg [.lit (.string [42]), .lit (.int .i64 3), .lit (.int .i64 5)], .agg [.lit (.string [47]), .lit (.int .i64 4), .lit (.int .i64 5)], .agg [.lit (.string [37]), .lit (.int .i64 5), .lit (.int .i64 5)]]
def laid_rewind_stmt_words {H : Type} : DataW H := .agg [.lit (.string []), .lit (.string [105, 110, 116]), .lit (.string [98, 111, 111, 108]), .lit (.string [97, 114, 114, 97, 121])]

/-- 'rewindlaw05.ExprOps': WHATEVER THE INPUT: true; the input reads as it did. -/
def exprOpsSpec : ChangeSpec := { name := "exprOps", fn := fun _ => fun
  | [d1, d2] => { results := [.lit (.bool true)], args := [d1, d2] }
  | _ => none }
def exprOpsRow : OpenClaim := { program := "ytoldhocdfkndbaagreatdoor", sum := "0e33471abbb823e38bd8b765016d050f8a0272f19982423044bcd6806fd334f2", func := "rewind/rewindlaw05.ExprOps", spec := "exprOps", inPlace := ["internal/bytealg.IndexByteString", "internal/bytealg.IndexString", "internal/abi.NoEscape", "internal/bytealg.MakeNoZero"], unfollowed := true, recurses := true, named := ["internal/bytealg.MaxLen", "rewind/lexeme.signs", "rewind/lexeme.keywords", "strconv.ErrSyntax", "strconv.ErrRange", "internal/strconv.uint64pow10", "math/bits.deBruijn32tab", "math/bits.deBruijn64tab", "rewind/shape.keywords", "rewind/shape.exprKinds", "rewind/expr.operators"], apart := false, laid := [("math/bits.deBruijn32tab", laid_math_bits_deBruijn32tab), ("math/bits.deBruijn64tab", laid_math_bits_deBruijn64tab), ("internal/strconv.uint64pow10", laid_internal_strconv_uint64pow10), ("rewind/shape.exprKinds", laid_rewind_shape_exprKinds), ("rewind/shape.keywords", laid_rewind_shape_keywords), ("strconv.ErrRange", laid_strconv_ErrRange), ("strconv.ErrSyntax", laid_strconv_ErrSyntax), ("rewind/lexeme.keywords", laid_rewind_lexeme_keywords), ("rewind/lexeme.signs", laid_rewind_lexeme_signs), ("rewind/expr.operators", laid_rewind_expr_operators)] }
def ExprOpsSaid : Prop := exprOpsRow.holds Tryz.pinned (OpenSpec.ofChange exprOpsSpec)

/-- ITS FALSE NEIGHBOUR: 'it returns false'. Refute it at one input. -/
def exprOpsWrong : ChangeSpec := { name := "exprOps", fn := fun _ => fun
  | [d1, d2] => { results := [.lit (.bool false)], args := [d1, d2] }
  | _ => none }
def ExprOpsWrongFalsely : Prop := exprOpsRow.holds Tryz.pinned (OpenSpec.ofChange exprOpsWrong)

/-- 'rewindlaw05.ExprBack': WHATEVER THE INPUT: true; the input reads as it did. -/
def exprBackSpec : ChangeSpec := { name := "exprBack", fn := fun _ => fun
  | [d1, d2, d3, d4] => { results := [.lit (.bool true)], args := [d1, d2, d3, d4] }
  | _ => none }
def exprBackRow : OpenClaim := { program := "ytoldhocdfkndbaagreatdoor", sum := "0e33471abbb823e38bd8b765016d050f8a0272f19982423044bcd6806fd334f2", func := "rewind/rewindlaw05.ExprBack", spec := "exprBack", inPlace := ["internal/bytealg.IndexByteString", "internal/bytealg.IndexString", "internal/abi.NoEscape", "internal/bytealg.MakeNoZero"], unfollowed := true, recurses := true, named := ["internal/bytealg.MaxLen", "rewind/lexeme.signs", "rewind/lexeme.keywords", "strconv.ErrSyntax", "strconv.ErrRange", "internal/strconv.uint64pow10", "math/bits.deBruijn32tab", "math/bits.deBruijn64tab", "rewind/expr.operators", "rewind/shape.keywords", "rewind/shape.exprKinds"], apart := false, laid := [("math/bits.deBruijn32tab", laid_math_bits_deBruijn32tab), ("math/bits.deBruijn64tab", laid_math_bits_deBruijn64tab), ("internal/strconv.uint64pow10", laid_internal_strconv_uint64pow10), ("rewind/shape.exprKinds", laid_rewind_shape_exprKinds), ("rewind/shape.keywords", laid_rewind_shape_keywords), ("strconv.ErrRange", laid_strconv_ErrRange), ("strconv.ErrSyntax", laid_strconv_ErrSyntax), ("rewind/lexeme.keywords", laid_rewind_lexeme_keywords), ("rewind/lexeme.signs", laid_rewind_lexeme_signs), ("rewind/expr.operators", laid_rewind_expr_operators)] }
def ExprBackSaid : Prop := exprBackRow.holds Tryz.pinned (OpenSpec.ofChange exprBackSpec)

/-- ITS FALSE NEIGHBOUR: 'it returns false'. Refute it at one input. -/
def exprBackWrong : ChangeSpec := { name := "exprBack", fn := fun _ => fun
  | [d1, d2, d3, d4] => { results := [.lit (.bool false)], args := [d1, d2, d3, d4] }
  | _ => none }
def ExprBackWrongFalsely : Prop := exprBackRow.holds Tryz.pinned (OpenSpec.ofChange exprBackWrong)

/-- 'rewindlaw05.ExprRanks': WHATEVER THE INPUT: true; the input reads as it did. -/
def exprRanksSpec : ChangeSpec := { name := "exprRanks", fn := fun _ => fun
  | [d] => { results := [.lit (.bool true)], args := [d] }
  | _ => none }
def exprRanksRow : OpenClaim := { program := "ytoldhocdfkndbaagreatdoor", sum := "0e33471abbb823e38bd8b765016d050f8a0272f19982423044bcd6806fd334f2", func := "rewind/rewindlaw05.ExprRanks", spec := "exprRanks", inPlace := ["internal/bytealg.IndexByteString", "internal/bytealg.IndexString", "internal/abi.NoEscape", "internal/bytealg.MakeNoZero"], unfollowed := true, recurses := true, named := ["rewind/expr.operators", "internal/strconv.uint64pow10", "math/bits.deBruijn32tab", "math/bits.deBruijn64tab", "internal/bytealg.MaxLen", "rewind/lexeme.signs", "rewind/lexeme.keywords", "strconv.ErrSyntax", "strconv.ErrRange", "rewind/shape.keywords", "rewind/shape.exprKinds"], apart := false, laid := [("math/bits.deBruijn32tab", laid_math_bits_deBruijn32tab), ("math/bits.deBruijn64tab", laid_math_bits_deBruijn64tab), ("internal/strconv.uint64pow10", laid_internal_strconv_uint64pow10), ("rewind/shape.exprKinds", laid_rewind_shape_exprKinds), ("rewind/shape.keywords", laid_rewind_shape_keywords), ("strconv.ErrRange", laid_strconv_ErrRange), ("strconv.ErrSyntax", laid_strconv_ErrSyntax), ("rewind/lexeme.keywords", laid_rewind_lexeme_keywords), ("rewind/lexeme.signs", laid_rewind_lexeme_signs), ("rewind/expr.operators", laid_rewind_expr_operators)] }
def ExprRanksSaid : Prop := exprRanksRow.holds Tryz.pinned (OpenSpec.ofChange exprRanksSpec)

/-- ITS FALSE NEIGHBOUR: 'it returns false'. Refute it at one input. -/
def exprRanksWrong : ChangeSpec := { name := "exprRanks", fn := fun _ => fun
  | [d] => { results := [.lit (.bool false)], args := [d] }
  | _ => none }
def ExprRanksWrongFalsely : Prop := exprRanksRow.holds Tryz.pinned (OpenSpec.ofChange exprRanksWrong)

/-- 'rewindlaw05.ExprCuts': WHATEVER THE INPUT: true; the input reads as it did. -/
def exprCutsSpec : ChangeSpec := { name := "exprCuts", fn := fun _ => fun
  | [d1, d2] => { results := [.lit (.bool true)], args := [d1, d2] }
  | _ => none }
def exprCutsRow : OpenClaim := { program := "ytoldhocdfkndbaagreatdoor", sum := "0e33471abbb823e38bd8b765016d050f8a0272f19982423044bcd6806fd334f2", func := "rewind/rewindlaw05.ExprCuts", spec := "exprCuts", inPlace := ["internal/bytealg.IndexByteString", "internal/bytealg.IndexString", "internal/abi.NoEscape", "internal/bytealg.MakeNoZero"], unfollowed := true, recurses := true, named := ["internal/strconv.uint64pow10", "math/bits.deBruijn32tab", "math/bits.deBruijn64tab", "rewind/expr.operators", "internal/bytealg.MaxLen", "rewind/lexeme.signs", "rewind/lexeme.keywords", "strconv.ErrSyntax", "strconv.ErrRange", "rewind/shape.keywords", "rewind/shape.exprKinds"], apart := false, laid := [("math/bits.deBruijn32tab", laid_math_bits_deBruijn32tab), ("math/bits.deBruijn64tab", laid_math_bits_deBruijn64tab), ("internal/strconv.uint64pow10", laid_internal_strconv_uint64pow10), ("rewind/shape.exprKinds", laid_rewind_shape_exprKinds), ("rewind/shape.keywords", laid_rewind_shape_keywords), ("strconv.ErrRange", laid_strconv_ErrRange), ("strconv.ErrSyntax", laid_strconv_ErrSyntax), ("rewind/lexeme.keywords", laid_rewind_lexeme_keywords), ("rewind/lexeme.signs", laid_rewind_lexeme_signs), ("rewind/expr.operators", laid_rewind_expr_operators)] }
def ExprCutsSaid : Prop := exprCutsRow.holds Tryz.pinned (OpenSpec.ofChange exprCutsSpec)

/-- ITS FALSE NEIGHBOUR: 'it returns false'. Refute it at one input. -/
def exprCutsWrong : ChangeSpec := { name := "exprCuts", fn := fun _ => fun
  | [d1, d2] => { results := [.lit (.bool false)], args := [d1, d2] }
  | _ => none }
def ExprCutsWrongFalsely : Prop := exprCutsRow.holds Tryz.pinned (OpenSpec.ofChange exprCutsWrong)

/-- 'rewindlaw05.ExprDeep': WHATEVER THE INPUT: true; the input reads as it did. -/
def exprDeepSpec : ChangeSpec := { name := "exprDeep", fn := fun _ => fun
  | [d1, d2] => { results := [.lit (.bool true)], args := [d1, d2] }
  | _ => none }
def exprDeepRow : OpenClaim := { program := "ytoldhocdfkndbaagreatdoor", sum := "0e33471abbb823e38bd8b765016d050f8a0272f19982423044bcd6806fd334f2", func := "rewind/rewindlaw05.ExprDeep", spec := "exprDeep", inPlace := ["internal/abi.NoEscape", "internal/bytealg.MakeNoZero", "internal/bytealg.IndexByteString", "internal/bytealg.IndexString"], unfollowed := true, recurses := true, named := ["internal/bytealg.MaxLen", "rewind/lexeme.signs", "rewind/lexeme.keywords", "strconv.ErrSyntax", "strconv.ErrRange", "internal/strconv.uint64pow10", "math/bits.deBruijn32tab", "math/bits.deBruijn64tab", "rewind/shape.keywords", "rewind/shape.exprKinds", "rewind/expr.operators"], apart := false, laid := [("math/bits.deBruijn32tab", laid_math_bits_deBruijn32tab), ("math/bits.deBruijn64tab", laid_math_bits_deBruijn64tab), ("internal/strconv.uint64pow10", laid_internal_strconv_uint64pow10), ("rewind/shape.exprKinds", laid_rewind_shape_exprKinds), ("rewind/shape.keywords", laid_rewind_shape_keywords), ("strconv.ErrRange", laid_strconv_ErrRange), ("strconv.ErrSyntax", laid_strconv_ErrSyntax), ("rewind/lexeme.keywords", laid_rewind_lexeme_keywords), ("rewind/lexeme.signs", laid_rewind_lexeme_signs), ("rewind/expr.operators", laid_rewind_expr_operators)] }
def ExprDeepSaid : Prop := exprDeepRow.holds Tryz.pinned (OpenSpec.ofChange exprDeepSpec)

/-- ITS FALSE NEIGHBOUR: 'it returns false'. Refute it at one input. -/
def exprDeepWrong : ChangeSpec := { name := "exprDeep", fn := fun _ => fun
  | [d1, d2] => { results := [.lit (.bool false)], args := [d1, d2] }
  | _ => none }
def ExprDeepWrongFalsely : Prop := exprDeepRow.holds Tryz.pinned (OpenSpec.ofChange exprDeepWrong)

/-- 'rewindlaw05.ExprRefuses': WHATEVER THE INPUT: true; the input reads as it did. -/
def exprRefusesSpec : ChangeSpec := { name := "exprRefuses", fn := fun _ => fun
  | [d1, d2] => { results := [.lit (.bool true)], args := [d1, d2] }
  | _ => none }
def exprRefusesRow : OpenClaim := { program := "ytoldhocdfkndbaagreatdoor", sum := "0e33471abbb823e38bd8b765016d050f8a0272f19982423044bcd6806fd334f2", func := "rewind/rewindlaw05.ExprRefuses", spec := "exprRefuses", inPlace := ["internal/abi.NoEscape", "internal/bytealg.MakeNoZero", "internal/bytealg.IndexByteString", "internal/bytealg.IndexString"], unfollowed := true, recurses := true, named := ["internal/strconv.uint64pow10", "math/bits.deBruijn32tab", "math/bits.deBruijn64tab", "rewind/shape.keywords", "rewind/shape.exprKinds", "rewind/expr.operators", "internal/bytealg.MaxLen", "rewind/lexeme.signs", "rewind/lexeme.keywords", "strconv.ErrSyntax", "strconv.ErrRange"], apart := false, laid := [("math/bits.deBruijn32tab", laid_math_bits_deBruijn32tab), ("math/bits.deBruijn64tab", laid_math_bits_deBruijn64tab), ("internal/strconv.uint64pow10", laid_internal_strconv_uint64pow10), ("rewind/shape.exprKinds", laid_rewind_shape_exprKinds), ("rewind/shape.keywords", laid_rewind_shape_keywords), ("strconv.ErrRange", laid_strconv_ErrRange), ("strconv.ErrSyntax", laid_strconv_ErrSyntax), ("rewind/lexeme.keywords", laid_rewind_lexeme_keywords), ("rewind/lexeme.signs", laid_rewind_lexeme_signs), ("rewind/expr.operators", laid_rewind_expr_operators)] }
def ExprRefusesSaid : Prop := exprRefusesRow.holds Tryz.pinned (OpenSpec.ofChange exprRefusesSpec)

/-- ITS FALSE NEIGHBOUR: 'it returns false'. Refute it at one input. -/
def exprRefusesWrong : ChangeSpec := { name := "exprRefuses", fn := fun _ => fun
  | [d1, d2] => { results := [.lit (.bool false)], args := [d1, d2] }
  | _ => none }
def ExprRefusesWrongFalsely : Prop := exprRefusesRow.holds Tryz.pinned (OpenSpec.ofChange exprRefusesWrong)

/-- 'rewindlaw06.StmtParses': WHATEVER THE INPUT: true; the input reads as it did. -/
def stmtParsesSpec : ChangeSpec := { name := "stmtParses", fn := fun _ => fun
  | [d1, d2, d3] => { results := [.lit (.bool true)], args := [d1, d2, d3] }
  | _ => none }
def stmtParsesRow : OpenClaim := { program := "ytoldhocdfkndbaagreatdoor", sum := "0e33471abbb823e38bd8b765016d050f8a0272f19982423044bcd6806fd334f2", func := "rewind/rewindlaw06.StmtParses", spec := "stmtParses", unfollowed := true, recurses := true, named := ["rewind/shape.keywords", "rewind/stmt.words", "internal/strconv.uint64pow10", "math/bits.deBruijn32tab", "math/bits.deBruijn64tab", "rewind/shape.exprKinds", "rewind/expr.operators"], apart := false, laid := [("math/bits.deBruijn32tab", laid_math_bits_deBruijn32tab), ("math/bits.deBruijn64tab", laid_math_bits_deBruijn64tab), ("internal/strconv.uint64pow10", laid_internal_strconv_uint64pow10), ("rewind/shape.exprKinds", laid_rewind_shape_exprKinds), ("rewind/shape.keywords", laid_rewind_shape_keywords), ("rewind/expr.operators", laid_rewind_expr_operators), ("rewind/stmt.words", laid_rewind_stmt_words)] }
def StmtParsesSaid : Prop := stmtParsesRow.holds Tryz.pinned (OpenSpec.ofChange stmtParsesSpec)

/-- ITS FALSE NEIGHBOUR: 'it returns false'. Refute it at one input. -/
def stmtParsesWrong : ChangeSpec := { name := "stmtParses", fn := fun _ => fun
  | [d1, d2, d3] => { results := [.lit (.bool false)], args := [d1, d2, d3] }
  | _ => none }
def StmtParsesWrongFalsely : Prop := stmtParsesRow.holds Tryz.pinned (OpenSpec.ofChange stmtParsesWrong)

/-- 'rewindlaw06.StmtWords': WHATEVER THE INPUT: true; the input reads as it did. -/
def stmtWordsSpec : ChangeSpec := { name := "stmtWords", fn := fun _ => fun
  | [d1, d2] => { results := [.lit (.bool true)], args := [d1, d2] }
  | _ => none }
def stmtWordsRow : OpenClaim := { program := "ytoldhocdfkndbaagreatdoor", sum := "0e33471abbb823e38bd8b765016d050f8a0272f19982423044bcd6806fd334f2", func := "rewind/rewindlaw06.StmtWords", spec := "stmtWords", unfollowed := true, recurses := true, named := ["rewind/shape.keywords", "rewind/stmt.words", "internal/strconv.uint64pow10", "math/bits.deBruijn32tab", "math/bits.deBruijn64tab", "rewind/shape.exprKinds", "rewind/expr.operators"], apart := false, laid := [("math/bits.deBruijn32tab", laid_math_bits_deBruijn32tab), ("math/bits.deBruijn64tab", laid_math_bits_deBruijn64tab), ("internal/strconv.uint64pow10", laid_internal_strconv_uint64pow10), ("rewind/shape.exprKinds", laid_rewind_shape_exprKinds), ("rewind/shape.keywords", laid_rewind_shape_keywords), ("rewind/expr.operators", laid_rewind_expr_operators), ("rewind/stmt.words", laid_rewind_stmt_words)] }
def StmtWordsSaid : Prop := stmtWordsRow.holds Tryz.pinned (OpenSpec.ofChange stmtWordsSpec)

/-- ITS FALSE NEIGHBOUR: 'it returns false'. Refute it at one input. -/
def stmtWordsWrong : ChangeSpec := { name := "stmtWords", fn := fun _ => fun
  | [d1, d2] => { results := [.lit (.bool false)], args := [d1, d2] }
  | _ => none }
def StmtWordsWrongFalsely : Prop := stmtWordsRow.holds Tryz.pinned (OpenSpec.ofChange stmtWordsWrong)

/-- 'rewindlaw06.StmtForms': WHATEVER THE INPUT: true; the input reads as it did. -/
def stmtFormsSpec : ChangeSpec := { name := "stmtForms", fn := fun _ => fun
  | [d1, d2, d3, d4] => { results := [.lit (.bool true)], args := [d1, d2, d3, d4] }
  | _ => none }
def stmtFormsRow : OpenClaim := { program := "ytoldhocdfkndbaagreatdoor", sum := "0e33471abbb823e38bd8b765016d050f8a0272f19982423044bcd6806fd334f2", func := "rewind/rewindlaw06.StmtForms", spec := "stmtForms", unfollowed := true, recurses := true, named := ["rewind/shape.keywords", "rewind/stmt.words", "internal/strconv.uint64pow10", "math/bits.deBruijn32tab", "math/bits.deBruijn64tab", "rewind/shape.exprKinds", "rewind/expr.operators"], apart := false, laid := [("math/bits.deBruijn32tab", laid_math_bits_deBruijn32tab), ("math/bits.deBruijn64tab", laid_math_bits_deBruijn64tab), ("internal/strconv.uint64pow10", laid_internal_strconv_uint64pow10), ("rewind/shape.exprKinds", laid_rewind_shape_exprKinds), ("rewind/shape.keywords", laid_rewind_shape_keywords), ("rewind/expr.operators", laid_rewind_expr_operators), ("rewind/stmt.words", laid_rewind_stmt_words)] }
def StmtFormsSaid : Prop := stmtFormsRow.holds Tryz.pinned (OpenSpec.ofChange stmtFormsSpec)

/-- ITS FALSE NEIGHBOUR: 'it returns false'. Refute it at one input. -/
def stmtFormsWrong : ChangeSpec := { name := "stmtForms", fn := fun _ => fun
  | [d1, d2, d3, d4] => { results := [.lit (.bool false)], args := [d1, d2, d3, d4] }
  | _ => none }
def StmtFormsWrongFalsely : Prop := stmtFormsRow.holds Tryz.pinned (OpenSpec.ofChange stmtFormsWrong)

/-- 'rewindlaw06.StmtNeeded': WHATEVER THE INPUT: true; the input reads as it did. -/
def stmtNeededSpec : ChangeSpec := { name := "stmtNeeded", fn := fun _ => fun
  | [d1, d2] => { results := [.lit (.bool true)], args := [d1, d2] }
  | _ => none }
def stmtNeededRow : OpenClaim := { program := "ytoldhocdfkndbaagreatdoor", sum := "0e33471abbb823e38bd8b765016d050f8a0272f19982423044bcd6806fd334f2", func := "rewind/rewindlaw06.StmtNeeded", spec := "stmtNeeded", unfollowed := true, recurses := true, named := ["rewind/shape.keywords", "rewind/stmt.words", "internal/strconv.uint64pow10", "math/bits.deBruijn32tab", "math/bits.deBruijn64tab", "rewind/shape.exprKinds", "rewind/expr.operators"], apart := false, laid := [("math/bits.deBruijn32tab", laid_math_bits_deBruijn32tab), ("math/bits.deBruijn64tab", laid_math_bits_deBruijn64tab), ("internal/strconv.uint64pow10", laid_internal_strconv_uint64pow10), ("rewind/shape.exprKinds", laid_rewind_shape_exprKinds), ("rewind/shape.keywords", laid_rewind_shape_keywords), ("rewind/expr.operators", laid_rewind_expr_operators), ("rewind/stmt.words", laid_rewind_stmt_words)] }
def StmtNeededSaid : Prop := stmtNeededRow.holds Tryz.pinned (OpenSpec.ofChange stmtNeededSpec)

/-- ITS FALSE NEIGHBOUR: 'it returns false'. Refute it at one input. -/
def stmtNeededWrong : ChangeSpec := { name := "stmtNeeded", fn := fun _ => fun
  | [d1, d2] => { results := [.lit (.bool false)], args := [d1, d2] }
  | _ => none }
def StmtNeededWrongFalsely : Prop := stmtNeededRow.holds Tryz.pinned (OpenSpec.ofChange stmtNeededWrong)

/-- 'rewindlaw06.StmtTypes': WHATEVER THE INPUT: true; the input reads as it did. -/
def stmtTypesSpec : ChangeSpec := { name := "stmtTypes", fn := fun _ => fun
  | [d1, d2] => { results := [.lit (.bool true)], args := [d1, d2] }
  | _ => none }
def stmtTypesRow : OpenClaim := { program := "ytoldhocdfkndbaagreatdoor", sum := "0e33471abbb823e38bd8b765016d050f8a0272f19982423044bcd6806fd334f2", func := "rewind/rewindlaw06.StmtTypes", spec := "stmtTypes", unfollowed := true, recurses := true, named := ["rewind/shape.keywords", "rewind/stmt.words", "internal/strconv.uint64pow10", "math/bits.deBruijn32tab", "math/bits.deBruijn64tab", "rewind/shape.exprKinds", "rewind/expr.operators"], apart := false, laid := [("math/bits.deBruijn32tab", laid_math_bits_deBruijn32tab), ("math/bits.deBruijn64tab", laid_math_bits_deBruijn64tab), ("internal/strconv.uint64pow10", laid_internal_strconv_uint64pow10), ("rewind/shape.exprKinds", laid_rewind_shape_exprKinds), ("rewind/shape.keywords", laid_rewind_shape_keywords), ("rewind/expr.operators", laid_rewind_expr_operators), ("rewind/stmt.words", laid_rewind_stmt_words)] }
def StmtTypesSaid : Prop := stmtTypesRow.holds Tryz.pinned (OpenSpec.ofChange stmtTypesSpec)

/-- ITS FALSE NEIGHBOUR: 'it returns false'. Refute it at one input. -/
def stmtTypesWrong : ChangeSpec := { name := "stmtTypes", fn := fun _ => fun
  | [d1, d2] => { results := [.lit (.bool false)], args := [d1, d2] }
  | _ => none }
def StmtTypesWrongFalsely : Prop := stmtTypesRow.holds Tryz.pinned (OpenSpec.ofChange stmtTypesWrong)

/-- 'rewindlaw06.StmtRefuses': WHATEVER THE INPUT: true; the input reads as it did. -/
def stmtRefusesSpec : ChangeSpec := { name := "stmtRefuses", fn := fun _ => fun
  | [d1, d2] => { results := [.lit (.bool true)], args := [d1, d2] }
  | _ => none }
def stmtRefusesRow : OpenClaim := { program := "ytoldhocdfkndbaagreatdoor", sum := "0e33471abbb823e38bd8b765016d050f8a0272f19982423044bcd6806fd334f2", func := "rewind/rewindlaw06.StmtRefuses", spec := "stmtRefuses", unfollowed := true, recurses := true, named := ["rewind/shape.keywords", "rewind/stmt.words", "internal/strconv.uint64pow10", "math/bits.deBruijn32tab", "math/bits.deBruijn64tab", "rewind/shape.exprKinds", "rewind/expr.operators"], apart := false, laid := [("math/bits.deBruijn32tab", laid_math_bits_deBruijn32tab), ("math/bits.deBruijn64tab", laid_math_bits_deBruijn64tab), ("internal/strconv.uint64pow10", laid_internal_strconv_uint64pow10), ("rewind/shape.exprKinds", laid_rewind_shape_exprKinds), ("rewind/shape.keywords", laid_rewind_shape_keywords), ("rewind/expr.operators", laid_rewind_expr_operators), ("rewind/stmt.words", laid_rewind_stmt_words)] }
def StmtRefusesSaid : Prop := stmtRefusesRow.holds Tryz.pinned (OpenSpec.ofChange stmtRefusesSpec)

/-- ITS FALSE NEIGHBOUR: 'it returns false'. Refute it at one input. -/
def stmtRefusesWrong : ChangeSpec := { name := "stmtRefuses", fn := fun _ => fun
  | [d1, d2] => { results := [.lit (.bool false)], args := [d1, d2] }
  | _ => none }
def StmtRefusesWrongFalsely : Prop := stmtRefusesRow.holds Tryz.pinned (OpenSpec.ofChange stmtRefusesWrong)

/- THE SECOND FORM. 'bulk': how many values and letters a reading holds, each counted each time it is reached (what is shared counts as often as it is met; a slice's spare places count too). A statement '..UptoSaid' is the law's where the arguments, and the package variables that the reading takes, are together of bulk at most 1048576: NARROWER than '..Said'. Prove '..Said' where nothing that the law and all that it calls make is longer than what came in: it says more and counts as full. Else prove '..UptoSaid'. A law counts once. -/
mutual
def uptoBulk {H : Type} : DataW H → Nat
  | .lit (.string bytes) => bytes.length + 1
  | .lit _ => 1
  | .nil => 1
  | .ptr d => uptoBulk d + 1
  | .slice elems spare => uptoBulkAll elems + uptoBulkAll spare + 1
  | .agg parts => uptoBulkAll parts + 1
  | .iface _ d => uptoBulk d + 1
  | .map entries => uptoBulkEntries entries + 1
  | .held _ => 1
def uptoBulkAll {H : Type} : List (DataW H) → Nat
  | [] => 0
  | d :: r => uptoBulk d + uptoBulkAll r
def uptoBulkEntries {H : Type} : List (Lit × DataW H) → Nat
  | [] => 0
  | x :: r => uptoBulkEntry x + uptoBulkEntries r
def uptoBulkEntry {H : Type} : Lit × DataW H → Nat
  | (.string bytes, d) => bytes.length + uptoBulk d + 1
  | (_, d) => uptoBulk d + 1
 end
def uptoSmall : (H : Type) → List (DataW H) → Bool := fun _ ds => decide (uptoBulkAll ds ≤ 1048576)
def OpenSpec.upto (s : _root_.Go.ChangeSpec) : _root_.Go.OpenSpec := { _root_.Go.OpenSpec.ofChange s with cond := some uptoSmall }

/-- 'rewindlaw05.ExprOps', WHERE WHAT IT READS IS OF BULK AT MOST 1048576: true; the input reads as it did. -/
def exprOpsUptoRow : OpenClaim := { program := "ytoldhocdfkndbaagreatdoor", sum := "0e33471abbb823e38bd8b765016d050f8a0272f19982423044bcd6806fd334f2", func := "rewind/rewindlaw05.ExprOps", spec := "exprOps", inPlace := ["internal/bytealg.IndexByteString", "internal/bytealg.IndexString", "internal/abi.NoEscape", "internal/bytealg.MakeNoZero"], unfollowed := true, recurses := true, named := ["internal/bytealg.MaxLen", "rewind/lexeme.signs", "rewind/lexeme.keywords", "strconv.ErrSyntax", "strconv.ErrRange", "internal/strconv.uint64pow10", "math/bits.deBruijn32tab", "math/bits.deBruijn64tab", "rewind/shape.keywords", "rewind/shape.exprKinds", "rewind/expr.operators"], apart := false, laid := [("math/bits.deBruijn32tab", laid_math_bits_deBruijn32tab), ("math/bits.deBruijn64tab", laid_math_bits_deBruijn64tab), ("internal/strconv.uint64pow10", laid_internal_strconv_uint64pow10), ("rewind/shape.exprKinds", laid_rewind_shape_exprKinds), ("rewind/shape.keywords", laid_rewind_shape_keywords), ("strconv.ErrRange", laid_strconv_ErrRange), ("strconv.ErrSyntax", laid_strconv_ErrSyntax), ("rewind/lexeme.keywords", laid_rewind_lexeme_keywords), ("rewind/lexeme.signs", laid_rewind_lexeme_signs), ("rewind/expr.operators", laid_rewind_expr_operators)], narrowed := true }
def ExprOpsUptoSaid : Prop := exprOpsUptoRow.holds Tryz.pinned (OpenSpec.upto exprOpsSpec)

/-- 'rewindlaw05.ExprBack', WHERE WHAT IT READS IS OF BULK AT MOST 1048576: true; the input reads as it did. -/
def exprBackUptoRow : OpenClaim := { program := "ytoldhocdfkndbaagreatdoor", sum := "0e33471abbb823e38bd8b765016d050f8a0272f19982423044bcd6806fd334f2", func := "rewind/rewindlaw05.ExprBack", spec := "exprBack", inPlace := ["internal/bytealg.IndexByteString", "internal/bytealg.IndexString", "internal/abi.NoEscape", "internal/bytealg.MakeNoZero"], unfollowed := true, recurses := true, named := ["internal/bytealg.MaxLen", "rewind/lexeme.signs", "rewind/lexeme.keywords", "strconv.ErrSyntax", "strconv.ErrRange", "internal/strconv.uint64pow10", "math/bits.deBruijn32tab", "math/bits.deBruijn64tab", "rewind/expr.operators", "rewind/shape.keywords", "rewind/shape.exprKinds"], apart := false, laid := [("math/bits.deBruijn32tab", laid_math_bits_deBruijn32tab), ("math/bits.deBruijn64tab", laid_math_bits_deBruijn64tab), ("internal/strconv.uint64pow10", laid_internal_strconv_uint64pow10), ("rewind/shape.exprKinds", laid_rewind_shape_exprKinds), ("rewind/shape.keywords", laid_rewind_shape_keywords), ("strconv.ErrRange", laid_strconv_ErrRange), ("strconv.ErrSyntax", laid_strconv_ErrSyntax), ("rewind/lexeme.keywords", laid_rewind_lexeme_keywords), ("rewind/lexeme.signs", laid_rewind_lexeme_signs), ("rewind/expr.operators", laid_rewind_expr_operators)], narrowed := true }
def ExprBackUptoSaid : Prop := exprBackUptoRow.holds Tryz.pinned (OpenSpec.upto exprBackSpec)

/-- 'rewindlaw05.ExprRanks', WHERE WHAT IT READS IS OF BULK AT MOST 1048576: true; the input reads as it did. -/
def exprRanksUptoRow : OpenClaim := { program := "ytoldhocdfkndbaagreatdoor", sum := "0e33471abbb823e38bd8b765016d050f8a0272f19982423044bcd6806fd334f2", func := "rewind/rewindlaw05.ExprRanks", spec := "exprRanks", inPlace := ["internal/bytealg.IndexByteString", "internal/bytealg.IndexString", "internal/abi.NoEscape", "internal/bytealg.MakeNoZero"], unfollowed := true, recurses := true, named := ["rewind/expr.operators", "internal/strconv.uint64pow10", "math/bits.deBruijn32tab", "math/bits.deBruijn64tab", "internal/bytealg.MaxLen", "rewind/lexeme.signs", "rewind/lexeme.keywords", "strconv.ErrSyntax", "strconv.ErrRange", "rewind/shape.keywords", "rewind/shape.exprKinds"], apart := false, laid := [("math/bits.deBruijn32tab", laid_math_bits_deBruijn32tab), ("math/bits.deBruijn64tab", laid_math_bits_deBruijn64tab), ("internal/strconv.uint64pow10", laid_internal_strconv_uint64pow10), ("rewind/shape.exprKinds", laid_rewind_shape_exprKinds), ("rewind/shape.keywords", laid_rewind_shape_keywords), ("strconv.ErrRange", laid_strconv_ErrRange), ("strconv.ErrSyntax", laid_strconv_ErrSyntax), ("rewind/lexeme.keywords", laid_rewind_lexeme_keywords), ("rewind/lexeme.signs", laid_rewind_lexeme_signs), ("rewind/expr.operators", laid_rewind_expr_operators)], narrowed := true }
def ExprRanksUptoSaid : Prop := exprRanksUptoRow.holds Tryz.pinned (OpenSpec.upto exprRanksSpec)

/-- 'rewindlaw05.ExprCuts', WHERE WHAT IT READS IS OF BULK AT MOST 1048576: true; the input reads as it did. -/
def exprCutsUptoRow : OpenClaim := { program := "ytoldhocdfkndbaagreatdoor", sum := "0e33471abbb823e38bd8b765016d050f8a0272f19982423044bcd6806fd334f2", func := "rewind/rewindlaw05.ExprCuts", spec := "exprCuts", inPlace := ["internal/bytealg.IndexByteString", "internal/bytealg.IndexString", "internal/abi.NoEscape", "internal/bytealg.MakeNoZero"], unfollowed := true, recurses := true, named := ["internal/strconv.uint64pow10", "math/bits.deBruijn32tab", "math/bits.deBruijn64tab", "rewind/expr.operators", "internal/bytealg.MaxLen", "rewind/lexeme.signs", "rewind/lexeme.keywords", "strconv.ErrSyntax", "strconv.ErrRange", "rewind/shape.keywords", "rewind/shape.exprKinds"], apart := false, laid := [("math/bits.deBruijn32tab", laid_math_bits_deBruijn32tab), ("math/bits.deBruijn64tab", laid_math_bits_deBruijn64tab), ("internal/strconv.uint64pow10", laid_internal_strconv_uint64pow10), ("rewind/shape.exprKinds", laid_rewind_shape_exprKinds), ("rewind/shape.keywords", laid_rewind_shape_keywords), ("strconv.ErrRange", laid_strconv_ErrRange), ("strconv.ErrSyntax", laid_strconv_ErrSyntax), ("rewind/lexeme.keywords", laid_rewind_lexeme_keywords), ("rewind/lexeme.signs", laid_rewind_lexeme_signs), ("rewind/expr.operators", laid_rewind_expr_operators)], narrowed := true }
def ExprCutsUptoSaid : Prop := exprCutsUptoRow.holds Tryz.pinned (OpenSpec.upto exprCutsSpec)

/-- 'rewindlaw05.ExprDeep', WHERE WHAT IT READS IS OF BULK AT MOST 1048576: true; the input reads as it did. -/
def exprDeepUptoRow : OpenClaim := { program := "ytoldhocdfkndbaagreatdoor", sum := "0e33471abbb823e38bd8b765016d050f8a0272f19982423044bcd6806fd334f2", func := "rewind/rewindlaw05.ExprDeep", spec := "exprDeep", inPlace := ["internal/abi.NoEscape", "internal/bytealg.MakeNoZero", "internal/bytealg.IndexByteString", "internal/bytealg.IndexString"], unfollowed := true, recurses := true, named := ["internal/bytealg.MaxLen", "rewind/lexeme.signs", "rewind/lexeme.keywords", "strconv.ErrSyntax", "strconv.ErrRange", "internal/strconv.uint64pow10", "math/bits.deBruijn32tab", "math/bits.deBruijn64tab", "rewind/shape.keywords", "rewind/shape.exprKinds", "rewind/expr.operators"], apart := false, laid := [("math/bits.deBruijn32tab", laid_math_bits_deBruijn32tab), ("math/bits.deBruijn64tab", laid_math_bits_deBruijn64tab), ("internal/strconv.uint64pow10", laid_internal_strconv_uint64pow10), ("rewind/shape.exprKinds", laid_rewind_shape_exprKinds), ("rewind/shape.keywords", laid_rewind_shape_keywords), ("strconv.ErrRange", laid_strconv_ErrRange), ("strconv.ErrSyntax", laid_strconv_ErrSyntax), ("rewind/lexeme.keywords", laid_rewind_lexeme_keywords), ("rewind/lexeme.signs", laid_rewind_lexeme_signs), ("rewind/expr.operators", laid_rewind_expr_operators)], narrowed := true }
def ExprDeepUptoSaid : Prop := exprDeepUptoRow.holds Tryz.pinned (OpenSpec.upto exprDeepSpec)

/-- 'rewindlaw05.ExprRefuses', WHERE WHAT IT READS IS OF BULK AT MOST 1048576: true; the input reads as it did. -/
def exprRefusesUptoRow : OpenClaim := { program := "ytoldhocdfkndbaagreatdoor", sum := "0e33471abbb823e38bd8b765016d050f8a0272f19982423044bcd6806fd334f2", func := "rewind/rewindlaw05.ExprRefuses", spec := "exprRefuses", inPlace := ["internal/abi.NoEscape", "internal/bytealg.MakeNoZero", "internal/bytealg.IndexByteString", "internal/bytealg.IndexString"], unfollowed := true, recurses := true, named := ["internal/strconv.uint64pow10", "math/bits.deBruijn32tab", "math/bits.deBruijn64tab", "rewind/shape.keywords", "rewind/shape.exprKinds", "rewind/expr.operators", "internal/bytealg.MaxLen", "rewind/lexeme.signs", "rewind/lexeme.keywords", "strconv.ErrSyntax", "strconv.ErrRange"], apart := false, laid := [("math/bits.deBruijn32tab", laid_math_bits_deBruijn32tab), ("math/bits.deBruijn64tab", laid_math_bits_deBruijn64tab), ("internal/strconv.uint64pow10", laid_internal_strconv_uint64pow10), ("rewind/shape.exprKinds", laid_rewind_shape_exprKinds), ("rewind/shape.keywords", laid_rewind_shape_keywords), ("strconv.ErrRange", laid_strconv_ErrRange), ("strconv.ErrSyntax", laid_strconv_ErrSyntax), ("rewind/lexeme.keywords", laid_rewind_lexeme_keywords), ("rewind/lexeme.signs", laid_rewind_lexeme_signs), ("rewind/expr.operators", laid_rewind_expr_operators)], narrowed := true }
def ExprRefusesUptoSaid : Prop := exprRefusesUptoRow.holds Tryz.pinned (OpenSpec.upto exprRefusesSpec)

/-- 'rewindlaw06.StmtParses', WHERE WHAT IT READS IS OF BULK AT MOST 1048576: true; the input reads as it did. -/
def stmtParsesUptoRow : OpenClaim := { program := "ytoldhocdfkndbaagreatdoor", sum := "0e33471abbb823e38bd8b765016d050f8a0272f19982423044bcd6806fd334f2", func := "rewind/rewindlaw06.StmtParses", spec := "stmtParses", unfollowed := true, recurses := true, named := ["rewind/shape.keywords", "rewind/stmt.words", "internal/strconv.uint64pow10", "math/bits.deBruijn32tab", "math/bits.deBruijn64tab", "rewind/shape.exprKinds", "rewind/expr.operators"], apart := false, laid := [("math/bits.deBruijn32tab", laid_math_bits_deBruijn32tab), ("math/bits.deBruijn64tab", laid_math_bits_deBruijn64tab), ("internal/strconv.uint64pow10", laid_internal_strconv_uint64pow10), ("rewind/shape.exprKinds", laid_rewind_shape_exprKinds), ("rewind/shape.keywords", laid_rewind_shape_keywords), ("rewind/expr.operators", laid_rewind_expr_operators), ("rewind/stmt.words", laid_rewind_stmt_words)], narrowed := true }
def StmtParsesUptoSaid : Prop := stmtParsesUptoRow.holds Tryz.pinned (OpenSpec.upto stmtParsesSpec)

/-- 'rewindlaw06.StmtWords', WHERE WHAT IT READS IS OF BULK AT MOST 1048576: true; the input reads as it did. -/
def stmtWordsUptoRow : OpenClaim := { program := "ytoldhocdfkndbaagreatdoor", sum := "0e33471abbb823e38bd8b765016d050f8a0272f19982423044bcd6806fd334f2", func := "rewind/rewindlaw06.StmtWords", spec := "stmtWords", unfollowed := true, recurses := true, named := ["rewind/shape.keywords", "rewind/stmt.words", "internal/strconv.uint64pow10", "math/bits.deBruijn32tab", "math/bits.deBruijn64tab", "rewind/shape.exprKinds", "rewind/expr.operators"], apart := false, laid := [("math/bits.deBruijn32tab", laid_math_bits_deBruijn32tab), ("math/bits.deBruijn64tab", laid_math_bits_deBruijn64tab), ("internal/strconv.uint64pow10", laid_internal_strconv_uint64pow10), ("rewind/shape.exprKinds", laid_rewind_shape_exprKinds), ("rewind/shape.keywords", laid_rewind_shape_keywords), ("rewind/expr.operators", laid_rewind_expr_operators), ("rewind/stmt.words", laid_rewind_stmt_words)], narrowed := true }
def StmtWordsUptoSaid : Prop := stmtWordsUptoRow.holds Tryz.pinned (OpenSpec.upto stmtWordsSpec)

/-- 'rewindlaw06.StmtForms', WHERE WHAT IT READS IS OF BULK AT MOST 1048576: true; the input reads as it did. -/
def stmtFormsUptoRow : OpenClaim := { program := "ytoldhocdfkndbaagreatdoor", sum := "0e33471abbb823e38bd8b765016d050f8a0272f19982423044bcd6806fd334f2", func := "rewind/rewindlaw06.StmtForms", spec := "stmtForms", unfollowed := true, recurses := true, named := ["rewind/shape.keywords", "rewind/stmt.words", "internal/strconv.uint64pow10", "math/bits.deBruijn32tab", "math/bits.deBruijn64tab", "rewind/shape.exprKinds", "rewind/expr.operators"], apart := false, laid := [("math/bits.deBruijn32tab", laid_math_bits_deBruijn32tab), ("math/bits.deBruijn64tab", laid_math_bits_deBruijn64tab), ("internal/strconv.uint64pow10", laid_internal_strconv_uint64pow10), ("rewind/shape.exprKinds", laid_rewind_shape_exprKinds), ("rewind/shape.keywords", laid_rewind_shape_keywords), ("rewind/expr.operators", laid_rewind_expr_operators), ("rewind/stmt.words", laid_rewind_stmt_words)], narrowed := true }
def StmtFormsUptoSaid : Prop := stmtFormsUptoRow.holds Tryz.pinned (OpenSpec.upto stmtFormsSpec)

/-- 'rewindlaw06.StmtNeeded', WHERE WHAT IT READS IS OF BULK AT MOST 1048576: true; the input reads as it did. -/
def stmtNeededUptoRow : OpenClaim := { program := "ytoldhocdfkndbaagreatdoor", sum := "0e33471abbb823e38bd8b765016d050f8a0272f19982423044bcd6806fd334f2", func := "rewind/rewindlaw06.StmtNeeded", spec := "stmtNeeded", unfollowed := true, recurses := true, named := ["rewind/shape.keywords", "rewind/stmt.words", "internal/strconv.uint64pow10", "math/bits.deBruijn32tab", "math/bits.deBruijn64tab", "rewind/shape.exprKinds", "rewind/expr.operators"], apart := false, laid := [("math/bits.deBruijn32tab", laid_math_bits_deBruijn32tab), ("math/bits.deBruijn64tab", laid_math_bits_deBruijn64tab), ("internal/strconv.uint64pow10", laid_internal_strconv_uint64pow10), ("rewind/shape.exprKinds", laid_rewind_shape_exprKinds), ("rewind/shape.keywords", laid_rewind_shape_keywords), ("rewind/expr.operators", laid_rewind_expr_operators), ("rewind/stmt.words", laid_rewind_stmt_words)], narrowed := true }
def StmtNeededUptoSaid : Prop := stmtNeededUptoRow.holds Tryz.pinned (OpenSpec.upto stmtNeededSpec)

/-- 'rewindlaw06.StmtTypes', WHERE WHAT IT READS IS OF BULK AT MOST 1048576: true; the input reads as it did. -/
def stmtTypesUptoRow : OpenClaim := { program := "ytoldhocdfkndbaagreatdoor", sum := "0e33471abbb823e38bd8b765016d050f8a0272f19982423044bcd6806fd334f2", func := "rewind/rewindlaw06.StmtTypes", spec := "stmtTypes", unfollowed := true, recurses := true, named := ["rewind/shape.keywords", "rewind/stmt.words", "internal/strconv.uint64pow10", "math/bits.deBruijn32tab", "math/bits.deBruijn64tab", "rewind/shape.exprKinds", "rewind/expr.operators"], apart := false, laid := [("math/bits.deBruijn32tab", laid_math_bits_deBruijn32tab), ("math/bits.deBruijn64tab", laid_math_bits_deBruijn64tab), ("internal/strconv.uint64pow10", laid_internal_strconv_uint64pow10), ("rewind/shape.exprKinds", laid_rewind_shape_exprKinds), ("rewind/shape.keywords", laid_rewind_shape_keywords), ("rewind/expr.operators", laid_rewind_expr_operators), ("rewind/stmt.words", laid_rewind_stmt_words)], narrowed := true }
def StmtTypesUptoSaid : Prop := stmtTypesUptoRow.holds Tryz.pinned (OpenSpec.upto stmtTypesSpec)

/-- 'rewindlaw06.StmtRefuses', WHERE WHAT IT READS IS OF BULK AT MOST 1048576: true; the input reads as it did. -/
def stmtRefusesUptoRow : OpenClaim := { program := "ytoldhocdfkndbaagreatdoor", sum := "0e33471abbb823e38bd8b765016d050f8a0272f19982423044bcd6806fd334f2", func := "rewind/rewindlaw06.StmtRefuses", spec := "stmtRefuses", unfollowed := true, recurses := true, named := ["rewind/shape.keywords", "rewind/stmt.words", "internal/strconv.uint64pow10", "math/bits.deBruijn32tab", "math/bits.deBruijn64tab", "rewind/shape.exprKinds", "rewind/expr.operators"], apart := false, laid := [("math/bits.deBruijn32tab", laid_math_bits_deBruijn32tab), ("math/bits.deBruijn64tab", laid_math_bits_deBruijn64tab), ("internal/strconv.uint64pow10", laid_internal_strconv_uint64pow10), ("rewind/shape.exprKinds", laid_rewind_shape_exprKinds), ("rewind/shape.keywords", laid_rewind_shape_keywords), ("rewind/expr.operators", laid_rewind_expr_operators), ("rewind/stmt.words", laid_rewind_stmt_words)], narrowed := true }
def StmtRefusesUptoSaid : Prop := stmtRefusesUptoRow.holds Tryz.pinned (OpenSpec.upto stmtRefusesSpec)

end Rows
end Go.Proofs.YtoldhocdfkndbaaGreatDoor
