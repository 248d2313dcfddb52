/-
  WHAT EVERY ROW OF STAGE 6 SHARES: what the seven listed variables give, and a world for the witness.
-/
import Derived.Test.YtipepljmfgjbpaaGreatDoorEFrame
import Derived.Test.YtipepljmfgjbpaaGreatDoorTTok
namespace Go.Proofs.YtipepljmfgjbpaaGreatDoor.E6
open Go Go.RowKit Go.ChangeShapes Go.WideShapes Go.ChangeAt Go.Joins Go.Proofs.YtipepljmfgjbpaaGreatDoor Go.Proofs.YtipepljmfgjbpaaGreatDoor.E5
open Go.ChangeMaps (open_string shut_string)

theorem gWd : Tryz.prog.globalNamed "rewind/stmt.words" = some 0 := by kernel_rfl
theorem tWd : (Tryz.prog.globals[0]?).map (·.type) = some 71 := by kernel_rfl
theorem words_of_laid {W : World} {rest : List (String × DataW Unit)} {ps : List MemPlace} (h : DataW.LaidVars Tryz.prog W (("rewind/stmt.words", Rows.laid_rewind_stmt_words) :: rest) ps) : W.rangeAt 0 0 wordRow.toList ∧ 0 < W.heap.size := by
  obtain ⟨g', t', cs, fuel, p, q, hg', ht', hvar, hd, _, _⟩ := h
  obtain rfl := Option.some.inj (gWd.symm.trans hg')
  obtain rfl := Option.some.inj (tWd.symm.trans ht')
  have c : ∀ (i : Nat) (s : List UInt8), (dsOf Rows.laid_rewind_stmt_words)[i]? = some (.lit (.string s)) → W.cell? ⟨0, i, none⟩ = some (.string ⟨s.toArray⟩) := fun i s hs => by
    obtain ⟨m, p', h1⟩ := arr_cells Tryz.underlying71 cStr hd i _ hs
    have h2 := str_cell Tryz.underlying9 h1
    rw [Nat.mul_one] at h2
    rw [World.var?_cell gWd hvar i, ← Array.getElem?_toList]
    exact take1 h2
  have c0 := c 0 _ rfl
  refine ⟨fun j v hj => ?_, World.block_lt_of_cell? _ _ c0⟩
  rw [Nat.zero_add]
  match j, hj with
  | 0, hj => cases hj; exact c0
  | 1, hj => cases hj; exact c 1 _ rfl
  | 2, hj => cases hj; exact c 2 _ rfl
  | 3, hj => cases hj; exact c 3 _ rfl
  | j + 4, hj => simp [wordRow] at hj
/-- The seven variables that the rows list. -/
def laid7 : List (String × DataW Unit) := [("math/bits.deBruijn32tab", Rows.laid_math_bits_deBruijn32tab), ("math/bits.deBruijn64tab", Rows.laid_math_bits_deBruijn64tab), ("internal/strconv.uint64pow10", Rows.laid_internal_strconv_uint64pow10), ("rewind/shape.exprKinds", Rows.laid_rewind_shape_exprKinds), ("rewind/shape.keywords", Rows.laid_rewind_shape_keywords), ("rewind/expr.operators", Rows.laid_rewind_expr_operators), ("rewind/stmt.words", Rows.laid_rewind_stmt_words)]
theorem glob_of_laid6 {W : World} (h : laidMetH Tryz.prog laid7 W) (hz : 6 < W.heap.size) : Glob6 W := by
  rw [MakeChecks.laidMetH_plain _ _ _ (by kernel_rfl)] at h
  have h3 := laidMet.tail (laidMet.tail h)
  have ht : Lib.TabIs Tryz.prog W "internal/strconv.uint64pow10" .u64 Lib.pow10Tab :=
    Lib.tabIs_of_head L4.gTab gTabType Tryz.underlying152 Tryz.underlying145 cellsU64 cellsTab h3
  have h4 := laidMet.tail h3
  have h5 := laidMet.tail h4
  have h6 := laidMet.tail h5
  have h7 := laidMet.tail h6
  obtain ⟨_, k4, _⟩ := h4
  obtain ⟨_, k5, _⟩ := h5
  obtain ⟨_, k6, _⟩ := h6
  obtain ⟨_, k7, _⟩ := h7
  have hbig : 4 < W.heap.size := World.block_lt_of_cell? _ _ (Lib.TabIs.cell ht L4.gTab 0 (by decide))
  obtain ⟨hw1, hw2⟩ := words_of_laid k7
  exact ⟨⟨⟨kws_of_laid k5, ek_of_laid k4, hz⟩, ⟨ht, hbig⟩, ⟨ops_of_laid k6, by show 2 < _; omega⟩⟩, ⟨hw1, hw2⟩⟩
/-- A listed variable is there. -/
theorem lt_of_var {W : World} {n : String} {g : Nat} {x : DataW Unit} {rest : List (String × DataW Unit)} {ps : List MemPlace} (hg : Tryz.prog.globalNamed n = some g) (h : DataW.LaidVars Tryz.prog W ((n, x) :: rest) ps) : g < W.heap.size := by
  obtain ⟨g', t', cs, fuel, p, q, hg', ht', hvar, hd, _, _⟩ := h
  simp only [World.var?, hg, Option.bind_some] at hvar
  split at hvar
  · rename_i h; exact lt_of_block h
  · cases hvar
theorem size_of_laid7 {W : World} (h : laidMetH Tryz.prog laid7 W) : 6 < W.heap.size := by
  rw [MakeChecks.laidMetH_plain _ _ _ (by kernel_rfl)] at h
  have j1 := h
  have h2 := laidMet.tail h
  have j2 := h2
  have h3 := laidMet.tail h2
  have j3 := h3
  have h4 := laidMet.tail h3
  have j4 := h4
  have h5 := laidMet.tail h4
  have j5 := h5
  have h6 := laidMet.tail h5
  have j6 := h6
  have h7 := laidMet.tail h6
  obtain ⟨_, k7, _⟩ := h7
  obtain ⟨_, k1, _⟩ := j1
  obtain ⟨_, k2, _⟩ := j2
  obtain ⟨_, k3, _⟩ := j3
  obtain ⟨_, k4, _⟩ := j4
  obtain ⟨_, k5, _⟩ := j5
  obtain ⟨_, k6, _⟩ := j6
  have a1 := lt_of_var (n := "math/bits.deBruijn32tab") (g := 5) (by kernel_rfl) k1
  have a2 := lt_of_var (n := "math/bits.deBruijn64tab") (g := 6) (by kernel_rfl) k2
  have a3 := lt_of_var (n := "internal/strconv.uint64pow10") (g := 4) (by kernel_rfl) k3
  have a4 := lt_of_var (n := "rewind/shape.exprKinds") (g := 3) (by kernel_rfl) k4
  have a5 := lt_of_var (n := "rewind/shape.keywords") (g := 1) (by kernel_rfl) k5
  have a6 := lt_of_var (n := "rewind/expr.operators") (g := 2) (by kernel_rfl) k6
  have a7 := lt_of_var (n := "rewind/stmt.words") (g := 0) (by kernel_rfl) k7
  omega
/-- The same where no error of strconv is listed. -/
noncomputable def laidWorldN (os : Os) : World :=
  let w0 := World.holding Tryz.prog os ⟨#[], #[], []⟩
  { w0 with heap := (((((((w0.heap.modify 5 (setTo tab32)).modify 6 (setTo tab64)).modify 4 (setTo tab10)).modify 3 (setTo tabEk)).modify 1 (setTo tabKwS)).modify 2 (setTo opRow)).modify 0 (setTo wordRow)) }
end Go.Proofs.YtipepljmfgjbpaaGreatDoor.E6
