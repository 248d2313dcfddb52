/-
  WHAT EVERY ROW OF THIS SEAT SHARES: what the listed variables give, and a world for the witness.
-/
import Derived.Test.YtkbmominplkdkaaDoorLWorks
import Derived.Test.YtkbmominplkdkaaDoorCards
import Derived.Test.YtkbmominplkdkaaDoorTie
import Derived.ProofKit
import Derived.OpenShut
import Derived.ChangeArms
import Derived.DataReads
import Derived.FnData
import Derived.Lib.LaidTab
import Derived.Deep.DeepHandedRow
import Derived.Deep.DeepWitnessRowRef
import Derived.Deep.DeepLaidRun
import Derived.Lib.SmallJoins
import Derived.Stop.LaidErr
import Derived.MakeChecks
namespace Go.Proofs.YtkbmominplkdkaaDoor
open Go Go.RowKit Go.ChangeShapes Go.WideShapes
section
variable {H : Type} {enc : TypeId × Value → H} {P : Program} {w : World} {base : Nat} {spare : Nat → Bool} {held : Bool}

theorem arr_cells {t e : TypeId} {n k fuel : Nat} {cs : List Value} {ds : List (DataW H)} {p : List MemPlace} (ht : P.underlying t = some (.array n e)) (hk : P.cellsOf e = k) (h : DataW.trod enc P w base spare held fuel t cs = some (.agg ds, p)) (i : Nat) (d : DataW H) (hd : ds[i]? = some d) :
    ∃ m p', DataW.trod enc P w base spare held m e ((cs.drop (i * k)).take k) = some (d, p') := by
  obtain ⟨xs, m, _, hx, _, hlen, hel⟩ := DataW.trod_array ht h
  cases hx
  rw [List.getElem?_map] at hd
  obtain ⟨y, hy, rfl⟩ := Option.map_eq_some_iff.1 hd
  have hi := (List.getElem?_eq_some_iff.1 hy).1
  have := hel i (by omega)
  rw [hk, hy] at this
  exact ⟨m, y.2, this⟩
theorem str_cell {t : TypeId} {s : List UInt8} {fuel : Nat} {cs : List Value} {p : List MemPlace} (ht : P.underlying t = some .string) (h : DataW.trod enc P w base spare held fuel t cs = some (.lit (.string s), p)) : cs = [.string ⟨s.toArray⟩] := by
  obtain ⟨m, h1, h2, _⟩ := DataW.trod_string ht h
  simp at h2
  rw [h1, h2.1]
theorem take1 {cs : List Value} {i : Nat} {v : Value} (h : (cs.drop i).take 1 = [v]) : cs[i]? = some v := by
  have := congrArg (fun l => l[0]?) h
  simpa [List.getElem?_take] using this
end
end Go.Proofs.YtkbmominplkdkaaDoor

namespace Go.Proofs.YtkbmominplkdkaaDoor
open Go Go.ChangeShapes Go.WideShapes Go.ChangeAt Go.RowKit Go.Joins
open Go.ChangeMaps (open_string shut_string)

theorem own : ownKnob Tryd.prog.godebug = none := by kernel_rfl
theorem star : "*" ++ "errors.errorString" = "*errors.errorString" := by decide
theorem gSynType : (Tryd.prog.globals[3]?).map (·.type) = some 62 := by kernel_rfl
theorem gRanType : (Tryd.prog.globals[4]?).map (·.type) = some 62 := by kernel_rfl
theorem gTabType : (Tryd.prog.globals[5]?).map (·.type) = some 90 := by kernel_rfl
theorem gKw : Tryd.prog.globalNamed "rewind/lexeme.keywords" = some 1 := by kernel_rfl
theorem tKw : (Tryd.prog.globals[1]?).map (·.type) = some 52 := by kernel_rfl
theorem gSg : Tryd.prog.globalNamed "rewind/lexeme.signs" = some 0 := by kernel_rfl
theorem tSg : (Tryd.prog.globals[0]?).map (·.type) = some 51 := by kernel_rfl
theorem cellsTab : Tryd.prog.cellsOf 90 = 20 := by kernel_rfl
theorem cellsU64 : Tryd.prog.cellsOf 37 = 1 := by kernel_rfl
theorem cellsErr : Tryd.prog.cellsOf 97 = 1 := by kernel_rfl
theorem cStr : Tryd.prog.cellsOf 9 = 1 := by kernel_rfl

theorem rowErr (u : TypeId) (h : Tryd.prog.typeName? 3 u = some "*errors.errorString") : u = 95 :=
  typeName_ptr_named (nm := "errors.errorString") (by rw [star]; kernel_rfl) (by kernel_rfl) (by decide) u (by rw [star]; exact h)

theorem kw_of_laid {W : World} {rest : List (String × DataW Unit)} {ps : List MemPlace} (h : DataW.LaidVars Tryd.prog W (("rewind/lexeme.keywords", Rows.laid_rewind_lexeme_keywords) :: rest) ps) : GlobKW W := by
  obtain ⟨g', t', cs, fuel, p, q, hg', ht', hvar, hd, _, _⟩ := h
  obtain rfl := Option.some.inj (gKw.symm.trans hg')
  obtain rfl := Option.some.inj (tKw.symm.trans ht')
  have c : ∀ (i : Nat) (s : List UInt8), (match (Rows.laid_rewind_lexeme_keywords : DataW Unit) with | .agg ds => ds | _ => [])[i]? = some (.lit (.string s)) → W.cell? ⟨1, i, none⟩ = some (.string ⟨s.toArray⟩) := fun i s hs => by
    obtain ⟨m, p', h1⟩ := arr_cells Tryd.underlying52 cStr hd i _ hs
    have h2 := str_cell Tryd.underlying9 h1
    rw [Nat.mul_one] at h2
    rw [World.var?_cell gKw hvar i, ← Array.getElem?_toList]
    exact take1 h2
  exact ⟨c 0 _ rfl, c 1 _ rfl, c 2 _ rfl, c 3 _ rfl, c 4 _ rfl, c 5 _ rfl, c 6 _ rfl, c 7 _ rfl, c 8 _ rfl, c 9 _ rfl, c 10 _ rfl, c 11 _ rfl, c 12 _ rfl, c 13 _ rfl, c 14 _ rfl⟩
theorem sg_of_laid {W : World} {rest : List (String × DataW Unit)} {ps : List MemPlace} (h : DataW.LaidVars Tryd.prog W (("rewind/lexeme.signs", Rows.laid_rewind_lexeme_signs) :: rest) ps) : GlobSG W := by
  obtain ⟨g', t', cs, fuel, p, q, hg', ht', hvar, hd, _, _⟩ := h
  obtain rfl := Option.some.inj (gSg.symm.trans hg')
  obtain rfl := Option.some.inj (tSg.symm.trans ht')
  have c : ∀ (i : Nat) (s : List UInt8), (match (Rows.laid_rewind_lexeme_signs : DataW Unit) with | .agg ds => ds | _ => [])[i]? = some (.lit (.string s)) → W.cell? ⟨0, i, none⟩ = some (.string ⟨s.toArray⟩) := fun i s hs => by
    obtain ⟨m, p', h1⟩ := arr_cells Tryd.underlying51 cStr hd i _ hs
    have h2 := str_cell Tryd.underlying9 h1
    rw [Nat.mul_one] at h2
    rw [World.var?_cell gSg hvar i, ← Array.getElem?_toList]
    exact take1 h2
  exact ⟨c 0 _ rfl, c 1 _ rfl, c 2 _ rfl, c 3 _ rfl, c 4 _ rfl, c 5 _ rfl, c 6 _ rfl, c 7 _ rfl, c 8 _ rfl, c 9 _ rfl, c 10 _ rfl, c 11 _ rfl, c 12 _ rfl, c 13 _ rfl, c 14 _ rfl, c 15 _ rfl, c 16 _ rfl, c 17 _ rfl, c 18 _ rfl, c 19 _ rfl, c 20 _ rfl, c 21 _ rfl, c 22 _ rfl⟩
/-- The seven variables that the rows list. -/
def laid7 : List (String × DataW Unit) := [("math/bits.deBruijn32tab", Rows.laid_math_bits_deBruijn32tab), ("math/bits.deBruijn64tab", Rows.laid_math_bits_deBruijn64tab), ("internal/strconv.uint64pow10", Rows.laid_internal_strconv_uint64pow10), ("strconv.ErrRange", Rows.laid_strconv_ErrRange), ("strconv.ErrSyntax", Rows.laid_strconv_ErrSyntax), ("rewind/lexeme.keywords", Rows.laid_rewind_lexeme_keywords), ("rewind/lexeme.signs", Rows.laid_rewind_lexeme_signs)]
theorem glob_of_laid {W : World} (h : laidMetH Tryd.prog laid7 W) : Glob W := by
  rw [MakeChecks.laidMetH_plain _ _ _ (by kernel_rfl)] at h
  have h3 : laidMet Tryd.prog [("internal/strconv.uint64pow10", Rows.laid_internal_strconv_uint64pow10), ("strconv.ErrRange", Rows.laid_strconv_ErrRange), ("strconv.ErrSyntax", Rows.laid_strconv_ErrSyntax), ("rewind/lexeme.keywords", Rows.laid_rewind_lexeme_keywords), ("rewind/lexeme.signs", Rows.laid_rewind_lexeme_signs)] W := laidMet.tail (laidMet.tail h)
  have ht : Lib.TabIs Tryd.prog W "internal/strconv.uint64pow10" .u64 Lib.pow10Tab :=
    Lib.tabIs_of_head gTab gTabType Tryd.underlying90 Tryd.underlying37 cellsU64 cellsTab h3
  obtain ⟨a0, s0, hv0, -, -, -⟩ := laid_sentinel (laidMet.tail h3) gRan gRanType Tryd.underlying62 rowErr Tryd.underlying95 Tryd.underlying97 rfl rfl Tryd.underlying9 cellsErr cStr
  obtain ⟨a1, s1, hv1, -, -, -⟩ := laid_sentinel (laidMet.tail (laidMet.tail h3)) gSyn gSynType Tryd.underlying62 rowErr Tryd.underlying95 Tryd.underlying97 rfl rfl Tryd.underlying9 cellsErr cStr
  have h4 := laidMet.tail (laidMet.tail (laidMet.tail h3))
  have h5 := laidMet.tail h4
  obtain ⟨ps, h6, _⟩ := h4
  obtain ⟨qs, h7, _⟩ := h5
  refine ⟨kw_of_laid h6, sg_of_laid h7, ht, ⟨_, _, by have h0 := World.var?_cell gSyn hv1 0; simpa using h0⟩, ⟨_, _, by have h0 := World.var?_cell gRan hv0 0; simpa using h0⟩, ?_⟩
  exact World.block_lt_of_cell? _ _ (Lib.TabIs.cell ht gTab 0 (by decide))

/-! ### A world for the witness: the variables as their initialisers lay them -/
def tab32 : Array Value := #[0, 1, 28, 2, 29, 14, 24, 3, 30, 22, 20, 15, 25, 17, 4, 8, 31, 27, 13, 23, 21, 19, 16, 7, 26, 12, 18, 6, 11, 5, 10, 9].map (Value.int .u8)
def tab64 : Array Value := #[0, 1, 56, 2, 57, 49, 28, 3, 61, 58, 42, 50, 38, 29, 17, 4, 62, 47, 59, 36, 45, 43, 51, 22, 53, 39, 33, 30, 24, 18, 12, 5, 63, 55, 48, 27, 60, 41, 37, 16, 46, 35, 44, 21, 52, 32, 23, 11, 54, 26, 40, 15, 34, 20, 31, 10, 25, 14, 19, 9, 13, 8, 7, 6].map (Value.int .u8)
def tab10 : Array Value := (Lib.pow10Tab.map (Value.int .u64)).toArray
abbrev synS : ByteArray := { data := #[105, 110, 118, 97, 108, 105, 100, 32, 115, 121, 110, 116, 97, 120] }
abbrev rngS : ByteArray := { data := #[118, 97, 108, 117, 101, 32, 111, 117, 116, 32, 111, 102, 32, 114, 97, 110, 103, 101] }
/-- So many blocks has the settled world. -/
noncomputable def low : Nat := (World.holding Tryd.prog default ⟨#[], #[], []⟩).heap.size
def tabKw : Array Value := (kwsL.map fun s => Value.string ⟨s.toArray⟩).toArray
def tabSg : Array Value := (sgL.map fun s => Value.string ⟨s.toArray⟩).toArray
def setTo (cs : Array Value) : Obj → Obj
  | .cells _ t frozen => .cells cs t frozen
  | o => o
noncomputable def laidWorld (os : Os) : World :=
  let w0 := World.holding Tryd.prog os ⟨#[.cells #[.string synS] 97, .cells #[.string rngS] 97], #[], []⟩
  { w0 with heap := ((((((w0.heap.modify 3 (setTo #[.iface 95 (.pointer (some ⟨low, 0, none⟩))])).modify 4 (setTo #[.iface 95 (.pointer (some ⟨low + 1, 0, none⟩))])).modify
      6 (setTo tab32)).modify 7 (setTo tab64)).modify 5 (setTo tab10)).modify 1 (setTo tabKw)).modify 0 (setTo tabSg) }

section
variable {H : Type} {enc : TypeId × Value → H} {P : Program}
/-- THE ROW's END, where nothing that lay has turned (the row does not ask to be read again). -/
theorem post_here {f : Func} {s : ChangeSpec} {apart fresh handsOn : Bool} {W W' : World} {args : Array Value} {v : Value} {ds gs : List (DataW H)} {before pa pv : List MemPlace}
    (hW : DataW.Whole enc P f.params.toList s.vars apart W args.toList ds gs before)
    (hres : ∀ (b : Nat) (sp : Nat → Bool) (hd : Bool), DataW.TrodAll enc P W' b sp hd f.resultTypes.toList (v.resultList f.resultTypes.size) (s.fn H (ds ++ gs)).results [])
    (hargs : ∀ sp : Nat → Bool, DataW.TrodAll enc P W' 0 sp true f.params.toList args.toList (s.fn H (ds ++ gs)).args pa)
    (hvars : ∀ sp : Nat → Bool, DataW.TrodVars enc P W' sp s.vars (s.fn H (ds ++ gs)).vars pv)
    (hps : before = pa ++ pv) (hb : Below W.heap.size W W') : s.post enc P f apart fresh handsOn false W args v W' := by
  refine ⟨ds, gs, before, [], pa, pv, hW, hres _ _ _, hargs _, hvars _, World.keptBut_mono (fun p hp => ⟨hp, ?_⟩) (hb.frame (· ∈ before)), fun h => by cases h⟩
  rw [hps] at hp
  rcases List.mem_append.1 hp with h | h
  · exact Or.inr (Or.inl h)
  · exact Or.inr (Or.inr h)
end

/-- THE CARD's LAST QUESTIONS, for a law number f. -/
theorem plainOf {bl : Bool} {name : String} {f0 : FuncId} {fn0 : Func} (h1 : Tryd.prog.funcNamed name = some f0) (h2 : Tryd.prog.funcs[f0]? = some fn0) (hlooks : bl = Tryd.pinned.checked.prog.looks []) (hall : (fn0.params.all fun u => !Tryd.prog.wantsStandIn u) = true)
    (f : FuncId) (fn : Func) (hf : Tryd.pinned.checked.prog.funcNamed name = some f) (hfn : Tryd.pinned.checked.prog.funcs[f]? = some fn) :
    bl = Tryd.pinned.checked.prog.looks [] ∧ ∀ (j : Nat) t, fn.params[j]? = some t → Tryd.pinned.checked.prog.wantsStandIn t = false := by
  obtain rfl : f = f0 := (Option.some.inj (h1.symm.trans hf)).symm
  obtain rfl : fn = fn0 := (Option.some.inj (h2.symm.trans hfn)).symm
  refine ⟨hlooks, fun j t ht => ?_⟩
  have := Array.all_eq_true_iff_forall_mem.1 hall t (Array.mem_of_getElem? ht)
  show Tryd.prog.wantsStandIn t = false
  simpa using this
end Go.Proofs.YtkbmominplkdkaaDoor
