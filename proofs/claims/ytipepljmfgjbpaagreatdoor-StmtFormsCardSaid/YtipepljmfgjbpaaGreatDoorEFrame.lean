/-
  WHAT EVERY ROW OF STAGE 5 SHARES: what the ten listed variables give, and a world for the witness. Written by gen5_frame.py.
  A datum read at []lexeme.Token, opened: a slice that reads as tokens.
  What the program itself has, whatever the law: each fact for itself.
-/
import Derived.Test.YtipepljmfgjbpaaGreatDoorEWk
import Derived.Test.YtipepljmfgjbpaaGreatDoorCards
import Derived.Test.YtipepljmfgjbpaaGreatDoorTie
import Derived.ProofKit
import Derived.OpenShut
import Derived.ChangeArms
import Derived.DataReads
import Derived.FnData
import Derived.Lib.LaidTab
import Derived.Deep.DeepHandedRow
import Derived.Deep.DeepWitnessRowRef
import Derived.Deep.DeepLaidRun
import Derived.Lib.SmallJoins
import Derived.Stop.LaidErr
import Derived.MakeChecks
namespace Go.Proofs.YtipepljmfgjbpaaGreatDoor.E5
open Go Go.RowKit Go.ChangeShapes Go.WideShapes Go.ChangeAt Go.Joins Go.Proofs.YtipepljmfgjbpaaGreatDoor
open Go.ChangeMaps (open_string shut_string)
section
variable {H : Type} {enc : TypeId × Value → H} {P : Program} {w : World} {base : Nat} {spare : Nat → Bool} {held : Bool}

theorem arr_cells {t e : TypeId} {n k fuel : Nat} {cs : List Value} {ds : List (DataW H)} {p : List MemPlace} (ht : P.underlying t = some (.array n e)) (hk : P.cellsOf e = k) (h : DataW.trod enc P w base spare held fuel t cs = some (.agg ds, p)) (i : Nat) (d : DataW H) (hd : ds[i]? = some d) :
    ∃ m p', DataW.trod enc P w base spare held m e ((cs.drop (i * k)).take k) = some (d, p') := by
  obtain ⟨xs, m, _, hx, _, hlen, hel⟩ := DataW.trod_array ht h
  cases hx
  rw [List.getElem?_map] at hd
  obtain ⟨y, hy, rfl⟩ := Option.map_eq_some_iff.1 hd
  have hi := (List.getElem?_eq_some_iff.1 hy).1
  have := hel i (by omega)
  rw [hk, hy] at this
  exact ⟨m, y.2, this⟩
theorem fld_cells {t : TypeId} {fs : Array Field} {fuel : Nat} {cs : List Value} {ds : List (DataW H)} {p : List MemPlace} (ht : P.underlying t = some (.struct fs)) (h : DataW.trod enc P w base spare held fuel t cs = some (.agg ds, p)) (i : Nat) (f : Field) (d : DataW H) (hf : fs[i]? = some f) (hd : ds[i]? = some d) :
    ∃ m p', DataW.trod enc P w base spare held m f.type ((cs.drop f.offset).take (P.cellsOf f.type)) = some (d, p') := by
  obtain ⟨xs, m, _, hx, _, hlen, hel⟩ := DataW.trod_struct ht h
  cases hx
  rw [List.getElem?_map] at hd
  obtain ⟨y, hy, rfl⟩ := Option.map_eq_some_iff.1 hd
  have := hel i f hf
  rw [hy] at this
  exact ⟨m, y.2, this⟩
theorem int_cell {t : TypeId} {k : IntKind} {n : Int} {fuel : Nat} {cs : List Value} {p : List MemPlace} (ht : P.underlying t = some (.int k)) (h : DataW.trod enc P w base spare held fuel t cs = some (.lit (.int k n), p)) : cs = [.int k n] := by
  obtain ⟨m, h1, h2, _⟩ := DataW.trod_int ht h
  simp at h2
  rw [h1, h2.1]
theorem str_cell {t : TypeId} {s : List UInt8} {fuel : Nat} {cs : List Value} {p : List MemPlace} (ht : P.underlying t = some .string) (h : DataW.trod enc P w base spare held fuel t cs = some (.lit (.string s), p)) : cs = [.string ⟨s.toArray⟩] := by
  obtain ⟨m, h1, h2, _⟩ := DataW.trod_string ht h
  simp at h2
  rw [h1, h2.1]
theorem take1 {cs : List Value} {i : Nat} {v : Value} (h : (cs.drop i).take 1 = [v]) : cs[i]? = some v := by
  have := congrArg (fun l => l[0]?) h
  simpa [List.getElem?_take] using this
theorem take1of {cs : List Value} {i j k : Nat} {v : Value} (hj : j < k) (h : (((cs.drop i).take k).drop j).take 1 = [v]) : cs[i + j]? = some v := by
  have := take1 h
  rw [List.getElem?_take_of_lt hj, List.getElem?_drop] at this
  exact this
theorem take1at {cs : List Value} {i j k c o : Nat} {v : Value} (hj : j < k) (h : (((cs.drop i).take k).drop o).take c = [v]) (ho : o = j) (hc : c = 1) : cs[i + j]? = some v := by
  subst ho; subst hc; exact take1of hj h
end


theorem own : ownKnob Tryz.prog.godebug = none := by kernel_rfl
theorem gTabType : (Tryz.prog.globals[4]?).map (·.type) = some 152 := by kernel_rfl
theorem cellsTab : Tryz.prog.cellsOf 152 = 20 := by kernel_rfl
theorem cellsU64 : Tryz.prog.cellsOf 145 = 1 := by kernel_rfl
theorem cStr : Tryz.prog.cellsOf 9 = 1 := by kernel_rfl

theorem gEk : Tryz.prog.globalNamed "rewind/shape.exprKinds" = some 3 := by kernel_rfl
theorem gKwS : Tryz.prog.globalNamed "rewind/shape.keywords" = some 1 := by kernel_rfl
theorem tEk : (Tryz.prog.globals[3]?).map (·.type) = some 141 := by kernel_rfl
theorem tKwS : (Tryz.prog.globals[1]?).map (·.type) = some 107 := by kernel_rfl
theorem gOps : Tryz.prog.globalNamed "rewind/expr.operators" = some 2 := by kernel_rfl
theorem tOps : (Tryz.prog.globals[2]?).map (·.type) = some 124 := by kernel_rfl
theorem cEk : Tryz.prog.cellsOf 140 = 5 := by kernel_rfl
theorem cOps : Tryz.prog.cellsOf 123 = 3 := by kernel_rfl
theorem cI64 : Tryz.prog.cellsOf 2 = 1 := by kernel_rfl
theorem cInt : Tryz.prog.cellsOf 3 = 1 := by kernel_rfl
theorem kws_of_laid {W : World} {rest : List (String × DataW Unit)} {ps : List MemPlace} (h : DataW.LaidVars Tryz.prog W (("rewind/shape.keywords", Rows.laid_rewind_shape_keywords) :: rest) ps) : S3.GlobK W := by
  obtain ⟨g', t', cs, fuel, p, q, hg', ht', hvar, hd, _, _⟩ := h
  obtain rfl := Option.some.inj (gKwS.symm.trans hg')
  obtain rfl := Option.some.inj (tKwS.symm.trans ht')
  have c : ∀ (i : Nat) (s : List UInt8), (match (Rows.laid_rewind_shape_keywords : DataW Unit) with | .agg ds => ds | _ => [])[i]? = some (.lit (.string s)) → W.cell? ⟨1, i, none⟩ = some (.string ⟨s.toArray⟩) := fun i s hs => by
    obtain ⟨m, p', h1⟩ := arr_cells Tryz.underlying107 cStr hd i _ hs
    have h2 := str_cell Tryz.underlying9 h1
    rw [Nat.mul_one] at h2
    rw [World.var?_cell gKwS hvar i, ← Array.getElem?_toList]
    exact take1 h2
  exact ⟨c 0 _ rfl, c 1 _ rfl, c 2 _ rfl, c 3 _ rfl, c 4 _ rfl, c 5 _ rfl, c 6 _ rfl, c 7 _ rfl, c 8 _ rfl, c 9 _ rfl, c 10 _ rfl, c 11 _ rfl, c 12 _ rfl, c 13 _ rfl, c 14 _ rfl⟩

def dsOf : DataW Unit → List (DataW Unit)
  | .agg ds => ds
  | _ => []
theorem ek_of_laid {W : World} {rest : List (String × DataW Unit)} {ps : List MemPlace} (h : DataW.LaidVars Tryz.prog W (("rewind/shape.exprKinds", Rows.laid_rewind_shape_exprKinds) :: rest) ps) : ∀ k r, S3.ekRows[k]? = some r → S3.EkCells W k r := by
  obtain ⟨g', t', cs, fuel, p, q, hg', ht', hvar, hd, _, _⟩ := h
  obtain rfl := Option.some.inj (gEk.symm.trans hg')
  obtain rfl := Option.some.inj (tEk.symm.trans ht')
  have c : ∀ (k : Nat) (n0 n1 n2 n3 n4 : Int), (dsOf Rows.laid_rewind_shape_exprKinds)[k]? = some (.agg [.lit (.int .i64 n0), .lit (.int .i64 n1), .lit (.int .i64 n2), .lit (.int .i64 n3), .lit (.int .i64 n4)]) →
      W.cell? ⟨3, k * 5, none⟩ = some (.int .i64 n0) ∧ W.cell? ⟨3, k * 5 + 1, none⟩ = some (.int .i64 n1) ∧ W.cell? ⟨3, k * 5 + 2, none⟩ = some (.int .i64 n2) ∧ W.cell? ⟨3, k * 5 + 3, none⟩ = some (.int .i64 n3) ∧ W.cell? ⟨3, k * 5 + 4, none⟩ = some (.int .i64 n4) := by
    intro k n0 n1 n2 n3 n4 hk
    obtain ⟨m, p', h1⟩ := arr_cells Tryz.underlying141 cEk hd k _ hk
    obtain ⟨_, _, g0⟩ := fld_cells Tryz.underlying140 h1 0 _ _ rfl rfl
    obtain ⟨_, _, g1⟩ := fld_cells Tryz.underlying140 h1 1 _ _ rfl rfl
    obtain ⟨_, _, g2⟩ := fld_cells Tryz.underlying140 h1 2 _ _ rfl rfl
    obtain ⟨_, _, g3⟩ := fld_cells Tryz.underlying140 h1 3 _ _ rfl rfl
    obtain ⟨_, _, g4⟩ := fld_cells Tryz.underlying140 h1 4 _ _ rfl rfl
    have e0 := int_cell Tryz.underlying3 g0
    have e1 := int_cell Tryz.underlying3 g1
    have e2 := int_cell Tryz.underlying3 g2
    have e3 := int_cell Tryz.underlying2 g3
    have e4 := int_cell Tryz.underlying3 g4
    refine ⟨?_, ?_, ?_, ?_, ?_⟩
    · rw [World.var?_cell gEk hvar, ← Array.getElem?_toList]; exact take1at (i := k * 5) (j := 0) (by decide) e0 rfl cInt
    · rw [World.var?_cell gEk hvar, ← Array.getElem?_toList]; exact take1at (i := k * 5) (j := 1) (by decide) e1 rfl cInt
    · rw [World.var?_cell gEk hvar, ← Array.getElem?_toList]; exact take1at (i := k * 5) (j := 2) (by decide) e2 rfl cInt
    · rw [World.var?_cell gEk hvar, ← Array.getElem?_toList]; exact take1at (i := k * 5) (j := 3) (by decide) e3 rfl cI64
    · rw [World.var?_cell gEk hvar, ← Array.getElem?_toList]; exact take1at (i := k * 5) (j := 4) (by decide) e4 rfl cInt
  intro k r hr
  rcases k with _ | _ | _ | _ | _ | _ | _ | _ | k
  · cases hr
    obtain ⟨a0, a1, a2, a3, a4⟩ := c 0 _ _ _ _ _ rfl
    exact ⟨a0, a1, a2, a3, a4⟩
  · cases hr
    obtain ⟨a0, a1, a2, a3, a4⟩ := c 1 _ _ _ _ _ rfl
    exact ⟨a0, a1, a2, a3, a4⟩
  · cases hr
    obtain ⟨a0, a1, a2, a3, a4⟩ := c 2 _ _ _ _ _ rfl
    exact ⟨a0, a1, a2, a3, a4⟩
  · cases hr
    obtain ⟨a0, a1, a2, a3, a4⟩ := c 3 _ _ _ _ _ rfl
    exact ⟨a0, a1, a2, a3, a4⟩
  · cases hr
    obtain ⟨a0, a1, a2, a3, a4⟩ := c 4 _ _ _ _ _ rfl
    exact ⟨a0, a1, a2, a3, a4⟩
  · cases hr
    obtain ⟨a0, a1, a2, a3, a4⟩ := c 5 _ _ _ _ _ rfl
    exact ⟨a0, a1, a2, a3, a4⟩
  · cases hr
    obtain ⟨a0, a1, a2, a3, a4⟩ := c 6 _ _ _ _ _ rfl
    exact ⟨a0, a1, a2, a3, a4⟩
  · cases hr
    obtain ⟨a0, a1, a2, a3, a4⟩ := c 7 _ _ _ _ _ rfl
    exact ⟨a0, a1, a2, a3, a4⟩
  · simp [S3.ekRows] at hr

theorem ops_of_laid {W : World} {rest : List (String × DataW Unit)} {ps : List MemPlace} (h : DataW.LaidVars Tryz.prog W (("rewind/expr.operators", Rows.laid_rewind_expr_operators) :: rest) ps) : W.rangeAt 2 0 opRow.toList := by
  obtain ⟨g', t', cs, fuel, p, q, hg', ht', hvar, hd, _, _⟩ := h
  obtain rfl := Option.some.inj (gOps.symm.trans hg')
  obtain rfl := Option.some.inj (tOps.symm.trans ht')
  have c : ∀ (k : Nat) (s : List UInt8) (n1 n2 : Int), (dsOf Rows.laid_rewind_expr_operators)[k]? = some (.agg [.lit (.string s), .lit (.int .i64 n1), .lit (.int .i64 n2)]) →
      W.cell? ⟨2, k * 3 + 0, none⟩ = some (.string ⟨s.toArray⟩) ∧ W.cell? ⟨2, k * 3 + 1, none⟩ = some (.int .i64 n1) ∧ W.cell? ⟨2, k * 3 + 2, none⟩ = some (.int .i64 n2) := by
    intro k s n1 n2 hk
    obtain ⟨m, p', h1⟩ := arr_cells Tryz.underlying124 cOps hd k _ hk
    obtain ⟨_, _, g0⟩ := fld_cells Tryz.underlying123 h1 0 _ _ rfl rfl
    obtain ⟨_, _, g1⟩ := fld_cells Tryz.underlying123 h1 1 _ _ rfl rfl
    obtain ⟨_, _, g2⟩ := fld_cells Tryz.underlying123 h1 2 _ _ rfl rfl
    have e0 := str_cell Tryz.underlying9 g0
    have e1 := int_cell Tryz.underlying3 g1
    have e2 := int_cell Tryz.underlying3 g2
    refine ⟨?_, ?_, ?_⟩
    · rw [World.var?_cell gOps hvar, ← Array.getElem?_toList]; exact take1at (i := k * 3) (j := 0) (by decide) e0 rfl cStr
    · rw [World.var?_cell gOps hvar, ← Array.getElem?_toList]; exact take1at (i := k * 3) (j := 1) (by decide) e1 rfl cInt
    · rw [World.var?_cell gOps hvar, ← Array.getElem?_toList]; exact take1at (i := k * 3) (j := 2) (by decide) e2 rfl cInt
  obtain ⟨a0, a1, a2⟩ := c 0 _ _ _ rfl
  obtain ⟨a3, a4, a5⟩ := c 1 _ _ _ rfl
  obtain ⟨a6, a7, a8⟩ := c 2 _ _ _ rfl
  obtain ⟨a9, a10, a11⟩ := c 3 _ _ _ rfl
  obtain ⟨a12, a13, a14⟩ := c 4 _ _ _ rfl
  obtain ⟨a15, a16, a17⟩ := c 5 _ _ _ rfl
  obtain ⟨a18, a19, a20⟩ := c 6 _ _ _ rfl
  obtain ⟨a21, a22, a23⟩ := c 7 _ _ _ rfl
  obtain ⟨a24, a25, a26⟩ := c 8 _ _ _ rfl
  obtain ⟨a27, a28, a29⟩ := c 9 _ _ _ rfl
  obtain ⟨a30, a31, a32⟩ := c 10 _ _ _ rfl
  obtain ⟨a33, a34, a35⟩ := c 11 _ _ _ rfl
  obtain ⟨a36, a37, a38⟩ := c 12 _ _ _ rfl
  intro j v hj
  match j, hj with
  | 0, hj => cases hj; exact a0
  | 1, hj => cases hj; exact a1
  | 2, hj => cases hj; exact a2
  | 3, hj => cases hj; exact a3
  | 4, hj => cases hj; exact a4
  | 5, hj => cases hj; exact a5
  | 6, hj => cases hj; exact a6
  | 7, hj => cases hj; exact a7
  | 8, hj => cases hj; exact a8
  | 9, hj => cases hj; exact a9
  | 10, hj => cases hj; exact a10
  | 11, hj => cases hj; exact a11
  | 12, hj => cases hj; exact a12
  | 13, hj => cases hj; exact a13
  | 14, hj => cases hj; exact a14
  | 15, hj => cases hj; exact a15
  | 16, hj => cases hj; exact a16
  | 17, hj => cases hj; exact a17
  | 18, hj => cases hj; exact a18
  | 19, hj => cases hj; exact a19
  | 20, hj => cases hj; exact a20
  | 21, hj => cases hj; exact a21
  | 22, hj => cases hj; exact a22
  | 23, hj => cases hj; exact a23
  | 24, hj => cases hj; exact a24
  | 25, hj => cases hj; exact a25
  | 26, hj => cases hj; exact a26
  | 27, hj => cases hj; exact a27
  | 28, hj => cases hj; exact a28
  | 29, hj => cases hj; exact a29
  | 30, hj => cases hj; exact a30
  | 31, hj => cases hj; exact a31
  | 32, hj => cases hj; exact a32
  | 33, hj => cases hj; exact a33
  | 34, hj => cases hj; exact a34
  | 35, hj => cases hj; exact a35
  | 36, hj => cases hj; exact a36
  | 37, hj => cases hj; exact a37
  | 38, hj => cases hj; exact a38
  | j + 39, hj => simp [opRow] at hj
/-! ### A world for the witness: the variables as their initialisers lay them -/
def tab32 : Array Value := #[0, 1, 28, 2, 29, 14, 24, 3, 30, 22, 20, 15, 25, 17, 4, 8, 31, 27, 13, 23, 21, 19, 16, 7, 26, 12, 18, 6, 11, 5, 10, 9].map (Value.int .u8)
def tab64 : Array Value := #[0, 1, 56, 2, 57, 49, 28, 3, 61, 58, 42, 50, 38, 29, 17, 4, 62, 47, 59, 36, 45, 43, 51, 22, 53, 39, 33, 30, 24, 18, 12, 5, 63, 55, 48, 27, 60, 41, 37, 16, 46, 35, 44, 21, 52, 32, 23, 11, 54, 26, 40, 15, 34, 20, 31, 10, 25, 14, 19, 9, 13, 8, 7, 6].map (Value.int .u8)
def tab10 : Array Value := (Lib.pow10Tab.map (Value.int .u64)).toArray
def tabEk : Array Value := (S3.ekRows.flatMap fun r => [.int .i64 r.name, .int .i64 r.first, .int .i64 r.last, .int .i64 r.most, .int .i64 (r.args : Int)]).toArray
def tabKwS : Array Value := (S3.kws.map fun s => Value.string ⟨s.toArray⟩).toArray
def setTo (cs : Array Value) : Obj → Obj
  | .cells _ t frozen => .cells cs t frozen
  | o => o
section
variable {H : Type} {enc : TypeId × Value → H} {P : Program}
end

/-- THE CARD's LAST QUESTIONS, for a law number f. -/
theorem plainOf {bl : Bool} {name : String} {f0 : FuncId} {fn0 : Func} (h1 : Tryz.prog.funcNamed name = some f0) (h2 : Tryz.prog.funcs[f0]? = some fn0) (hlooks : bl = Tryz.pinned.checked.prog.looks []) (hall : (fn0.params.all fun u => !Tryz.prog.wantsStandIn u) = true)
    (f : FuncId) (fn : Func) (hf : Tryz.pinned.checked.prog.funcNamed name = some f) (hfn : Tryz.pinned.checked.prog.funcs[f]? = some fn) :
    bl = Tryz.pinned.checked.prog.looks [] ∧ ∀ (j : Nat) t, fn.params[j]? = some t → Tryz.pinned.checked.prog.wantsStandIn t = false := by
  obtain rfl : f = f0 := (Option.some.inj (h1.symm.trans hf)).symm
  obtain rfl : fn = fn0 := (Option.some.inj (h2.symm.trans hfn)).symm
  refine ⟨hlooks, fun j t ht => ?_⟩
  have := Array.all_eq_true_iff_forall_mem.1 hall t (Array.mem_of_getElem? ht)
  show Tryz.prog.wantsStandIn t = false
  simpa using this
end Go.Proofs.YtipepljmfgjbpaaGreatDoor.E5

namespace Go.Proofs.YtipepljmfgjbpaaGreatDoor.E5
open Go Go.RowKit Go.ChangeShapes Go.WideShapes Go.ChangeAt Go.Joins Go.Proofs.YtipepljmfgjbpaaGreatDoor
section
variable {H : Type} {enc : TypeId × Value → H} {P : Program}
theorem post_kept {f : Func} {s : ChangeSpec} {apart fresh handsOn : Bool} {W W' : World} {args : Array Value} {v : Value} {ds gs : List (DataW H)} {before pa pv : List MemPlace}
    (hW : DataW.Whole enc P f.params.toList s.vars apart W args.toList ds gs before)
    (hres : ∀ (b : Nat) (sp : Nat → Bool) (hd : Bool), DataW.TrodAll enc P W' b sp hd f.resultTypes.toList (v.resultList f.resultTypes.size) (s.fn H (ds ++ gs)).results [])
    (hargs : DataW.TrodAll enc P W' 0 (fun b => decide (b < W.heap.size)) true f.params.toList args.toList (s.fn H (ds ++ gs)).args pa)
    (hvars : DataW.TrodVars enc P W' (fun b => decide (b < W.heap.size)) s.vars (s.fn H (ds ++ gs)).vars pv)
    (hps : before = pa ++ pv) (hb : Below W.heap.size W W') : s.post enc P f apart fresh handsOn false W args v W' := by
  refine ⟨ds, gs, before, [], pa, pv, hW, hres _ _ _, hargs, hvars, World.keptBut_mono (fun p hp => ⟨hp, ?_⟩) (hb.frame (· ∈ before)), fun h => by cases h⟩
  rw [hps] at hp
  rcases List.mem_append.1 hp with h | h
  · exact Or.inr (Or.inl h)
  · exact Or.inr (Or.inr h)

end
section
variable {H : Type} {enc : TypeId × Value → H} {w : World} {base : Nat} {spare : Nat → Bool} {held : Bool}
theorem list3 {α : Type} {cs : List α} (h : cs.length = 3) : ∃ a b c, cs = [a, b, c] := by
  match cs, h with
  | [a, b, c], _ => exact ⟨a, b, c, rfl⟩
theorem add_plain3 (b o j : Nat) : (Addr.add ⟨b, o, none⟩ j) = ⟨b, o + j, none⟩ := by
  unfold Addr.add; split <;> simp_all
theorem open_tok1 {fuel : Nat} {cs : List Value} {x : DataW H × List MemPlace} (h : DataW.trod enc Tryz.prog w base spare held fuel 33 cs = some x) :
    ∃ (k : Int) (s : Bytes) (a : Int), cs = [.int .i64 k, .string (B s), .int .i64 a] ∧ s.length ≤ 9223372036854775807 := by
  obtain ⟨xs, m, hf, _, hl, hlen, hfd⟩ := DataW.trod_struct Tryz.underlying33 h
  obtain ⟨a, b, c, rfl⟩ := list3 (hl.trans (by kernel_rfl : Tryz.prog.cellsOf 33 = 3))
  obtain ⟨y0, y1, y2, rfl⟩ := list3 hlen
  have q3 : Tryz.prog.cellsOf 3 = 1 := by kernel_rfl
  have q9 : Tryz.prog.cellsOf 9 = 1 := by kernel_rfl
  have f0 : DataW.trod enc Tryz.prog w base spare held m 3 [a] = some y0 := by simpa [q3] using hfd 0 _ rfl
  have f1 : DataW.trod enc Tryz.prog w base spare held m 9 [b] = some y1 := by simpa [q9] using hfd 1 _ rfl
  have f2 : DataW.trod enc Tryz.prog w base spare held m 3 [c] = some y2 := by simpa [q3] using hfd 2 _ rfl
  obtain ⟨k, hk, _, wk⟩ := DataW.trod_int Tryz.underlying3 f0
  obtain ⟨s, hs, _, ws⟩ := DataW.trod_string Tryz.underlying9 f1
  obtain ⟨n, hn, _, wn⟩ := DataW.trod_int Tryz.underlying3 f2
  cases hk; cases hs; cases hn
  refine ⟨k, s.data.toList, n, rfl, ?_⟩
  have : s.data.size ≤ maxLen := ws
  unfold maxLen at this
  simpa using this
theorem open_toks {fuel : Nat} {cs : List Value} {x : DataW H × List MemPlace} (h : DataW.trod enc Tryz.prog w base spare held fuel 23 cs = some x) : ∃ l v, cs = [v] ∧ TokL w w.heap.size v l := by
  rcases DataW.trod_slice Tryz.underlying23 h with ⟨rfl, _⟩ | ⟨a, len, cap, elems, rest, n, hf, rfl, _, hb, hl, hm, hlen, hel, _, _⟩
  · exact ⟨[], _, rfl, none, 0, rfl, by decide, fun i t hi => by simp at hi⟩
  · have q5 : Tryz.prog.cellsOf 33 = 3 := by kernel_rfl
    rw [q5] at hel
    unfold maxLen at hm
    by_cases hz : len = 0
    · subst hz
      exact ⟨[], _, rfl, _, _, rfl, by decide, fun i t hi => by simp at hi⟩
    obtain ⟨b, off, spot⟩ := a
    have hspot : spot = none := by
      have h1 := hel 0 (by omega)
      rw [List.getElem?_eq_getElem (by omega)] at h1
      obtain ⟨cs', hc, ht⟩ := Option.bind_eq_some_iff.1 h1
      obtain ⟨k, s, a, rfl, _⟩ := open_tok1 ht
      obtain ⟨_, _, hcell⟩ := World.cells?_some hc
      simpa [Addr.add] using World.cell?_spot ((hcell 0 (by decide)).trans rfl)
    subst hspot
    have each : ∀ i, ∃ (t : Int × Bytes), i < len → t.2.length ≤ 9223372036854775807 ∧ ∃ a, b < w.heap.size ∧ w.cell? ⟨b, off + i * 3, none⟩ = some (.int .i64 t.1) ∧ w.cell? ⟨b, off + i * 3 + 1, none⟩ = some (.string (B t.2)) ∧ w.cell? ⟨b, off + i * 3 + 2, none⟩ = some (.int .i64 a) := by
      intro i
      by_cases hi : i < len
      · have h1 := hel i hi
        rw [List.getElem?_eq_getElem (by omega)] at h1
        obtain ⟨cs', hc, ht⟩ := Option.bind_eq_some_iff.1 h1
        obtain ⟨k, s, a, rfl, hs⟩ := open_tok1 ht
        obtain ⟨_, _, hcell⟩ := World.cells?_some hc
        have c0 := hcell 0 (by decide)
        have c1 := hcell 1 (by decide)
        have c2 := hcell 2 (by decide)
        rw [add_plain3, add_plain3] at c0 c1 c2
        exact ⟨(k, s), fun _ => ⟨hs, a, World.block_lt_of_cell? _ _ c0, c0, c1, c2⟩⟩
      · exact ⟨(0, []), fun h => absurd h hi⟩
    obtain ⟨E, hE⟩ := Classical.axiomOfChoice each
    have hlr : ((List.range len).map E).length = len := by simp
    refine ⟨(List.range len).map E, _, rfl, some ⟨b, off, none⟩, cap, by rw [hlr], by rw [hlr]; omega, fun i t hi => ?_⟩
    have hi' := (List.getElem?_eq_some_iff.1 hi).1
    rw [hlr] at hi'
    rw [List.getElem?_map, List.getElem?_range hi'] at hi
    obtain rfl := (Option.some.inj hi).symm
    obtain ⟨h1, a, h2, h3, h4, h5⟩ := hE i hi'
    exact ⟨h1, b, off, a, rfl, h2, h3, h4, h5⟩
theorem open_toksC {fuel : Nat} {cs : List Value} {x : DataW H × List MemPlace} (h : DataW.trod enc Tryz.prog w base spare held fuel 23 cs = some x) : ∃ l A c, cs = [.slice A l.length c] ∧ l.length ≤ c ∧ c ≤ 9223372036854775807 ∧ TokL w w.heap.size (.slice A l.length c) l := by
  rcases DataW.trod_slice Tryz.underlying23 h with ⟨rfl, _⟩ | ⟨a, len, cap, elems, rest, n, hf, rfl, _, hb, hl, hm, hlen, hel, _, _⟩
  · exact ⟨[], none, 0, rfl, by decide, by decide, none, 0, rfl, by decide, fun i t hi => by simp at hi⟩
  · have q5 : Tryz.prog.cellsOf 33 = 3 := by kernel_rfl
    rw [q5] at hel
    unfold maxLen at hm
    by_cases hz : len = 0
    · subst hz
      exact ⟨[], _, _, rfl, hl, hm, _, _, rfl, by decide, fun i t hi => by simp at hi⟩
    obtain ⟨b, off, spot⟩ := a
    have hspot : spot = none := by
      have h1 := hel 0 (by omega)
      rw [List.getElem?_eq_getElem (by omega)] at h1
      obtain ⟨cs', hc, ht⟩ := Option.bind_eq_some_iff.1 h1
      obtain ⟨k, s, a, rfl, _⟩ := open_tok1 ht
      obtain ⟨_, _, hcell⟩ := World.cells?_some hc
      simpa [Addr.add] using World.cell?_spot ((hcell 0 (by decide)).trans rfl)
    subst hspot
    have each : ∀ i, ∃ (t : Int × Bytes), i < len → t.2.length ≤ 9223372036854775807 ∧ ∃ a, b < w.heap.size ∧ w.cell? ⟨b, off + i * 3, none⟩ = some (.int .i64 t.1) ∧ w.cell? ⟨b, off + i * 3 + 1, none⟩ = some (.string (B t.2)) ∧ w.cell? ⟨b, off + i * 3 + 2, none⟩ = some (.int .i64 a) := by
      intro i
      by_cases hi : i < len
      · have h1 := hel i hi
        rw [List.getElem?_eq_getElem (by omega)] at h1
        obtain ⟨cs', hc, ht⟩ := Option.bind_eq_some_iff.1 h1
        obtain ⟨k, s, a, rfl, hs⟩ := open_tok1 ht
        obtain ⟨_, _, hcell⟩ := World.cells?_some hc
        have c0 := hcell 0 (by decide)
        have c1 := hcell 1 (by decide)
        have c2 := hcell 2 (by decide)
        rw [add_plain3, add_plain3] at c0 c1 c2
        exact ⟨(k, s), fun _ => ⟨hs, a, World.block_lt_of_cell? _ _ c0, c0, c1, c2⟩⟩
      · exact ⟨(0, []), fun h => absurd h hi⟩
    obtain ⟨E, hE⟩ := Classical.axiomOfChoice each
    have hlr : ((List.range len).map E).length = len := by simp
    refine ⟨(List.range len).map E, some ⟨b, off, none⟩, cap, by rw [hlr], by rw [hlr]; exact hl, hm, some ⟨b, off, none⟩, cap, rfl, by rw [hlr]; omega, fun i t hi => ?_⟩
    have hi' := (List.getElem?_eq_some_iff.1 hi).1
    rw [hlr] at hi'
    rw [List.getElem?_map, List.getElem?_range hi'] at hi
    obtain rfl := (Option.some.inj hi).symm
    obtain ⟨h1, a, h2, h3, h4, h5⟩ := hE i hi'
    exact ⟨h1, b, off, a, rfl, h2, h3, h4, h5⟩
/-- A slice of bytes. -/
def ByL (W : World) (v : Value) (l : List Nat) : Prop := ∃ A c, v = .slice A l.length c ∧ l.length ≤ c ∧ c ≤ 9223372036854775807 ∧ (∀ x ∈ l, x ≤ 255) ∧ ∀ (i x : Nat), l[i]? = some x → ∃ b o, A = some ⟨b, o, none⟩ ∧ b < W.heap.size ∧ W.cell? ⟨b, o + i, none⟩ = some (.int .u8 (x : Int))
theorem ByL.bel {W W' : World} {v : Value} {l : List Nat} (h : ByL W v l) (hb : Below W.heap.size W W') : ByL W' v l := by
  obtain ⟨A, c, h1, h2, h3, h4, h5⟩ := h
  refine ⟨A, c, h1, h2, h3, h4, fun i x hi => ?_⟩
  obtain ⟨b, o, e1, e2, e3⟩ := h5 i x hi
  exact ⟨b, o, e1, Nat.lt_of_lt_of_le e2 hb.size, (hb.cell (p := ⟨b, o + i, none⟩) e2).trans e3⟩
theorem open_bytes {fuel : Nat} {T : TypeId} {cs : List Value} {x : DataW H × List MemPlace} (hT : Tryz.prog.underlying T = some (.slice 5)) (h : DataW.trod enc Tryz.prog w base spare held fuel T cs = some x) : ∃ l v, cs = [v] ∧ ByL w v l := by
  rcases DataW.trod_slice hT h with ⟨rfl, _⟩ | ⟨a, len, cap, elems, rest, n, hf, rfl, _, hb, hl, hm, hlen, hel, _, _⟩
  · exact ⟨[], _, rfl, none, 0, rfl, by decide, by decide, (fun x hx => absurd hx (by simp)), (fun i t hi => by simp at hi)⟩
  · have q1 : Tryz.prog.cellsOf 5 = 1 := by kernel_rfl
    rw [q1] at hel
    unfold maxLen at hm
    by_cases hz : len = 0
    · subst hz
      exact ⟨[], _, rfl, _, _, rfl, hl, hm, (fun x hx => absurd hx (by simp)), (fun i t hi => by simp at hi)⟩
    obtain ⟨b, off, spot⟩ := a
    have one : ∀ i, i < len → ∃ k : Nat, k ≤ 255 ∧ b < w.heap.size ∧ w.cell? ((⟨b, off, spot⟩ : Addr).add (i * 1)) = some (.int .u8 (k : Int)) := by
      intro i hi
      have h1 := hel i hi
      rw [List.getElem?_eq_getElem (by omega)] at h1
      obtain ⟨cs', hc, ht⟩ := Option.bind_eq_some_iff.1 h1
      obtain ⟨_, hlc, hcell⟩ := World.cells?_some hc
      obtain ⟨u, hu⟩ : ∃ u, cs' = [u] := by
        match cs', hlc with
        | [u], _ => exact ⟨u, rfl⟩
      subst hu
      obtain ⟨k, hk, _, wk⟩ := DataW.trod_int Tryz.underlying5 ht
      cases hk
      have hw : 0 ≤ k ∧ k ≤ 255 := by simpa [Lit.wf, IntKind.min, IntKind.max, IntKind.signed, IntKind.bits] using wk
      have c0 := hcell 0 (by decide)
      have c0' : w.cell? (((⟨b, off, spot⟩ : Addr).add (i * 1)).add 0) = some (.int .u8 k) := c0
      have e0 : ∀ a : Addr, a.add 0 = a := fun a => by unfold Addr.add; simp
      rw [e0] at c0'
      refine ⟨k.toNat, by omega, ?_, by rw [Int.toNat_of_nonneg hw.1]; exact c0'⟩
      have := World.block_lt_of_cell? _ _ c0'
      unfold Addr.add at this
      split at this <;> exact this
    have hspot : spot = none := by
      obtain ⟨k, _, _, hc⟩ := one 0 (by omega)
      simpa [Addr.add] using World.cell?_spot hc
    subst hspot
    have each : ∀ i, ∃ k : Nat, i < len → k ≤ 255 ∧ b < w.heap.size ∧ w.cell? ⟨b, off + i, none⟩ = some (.int .u8 (k : Int)) := by
      intro i
      by_cases hi : i < len
      · obtain ⟨k, h1, h2, h3⟩ := one i hi
        rw [add_plain3, Nat.mul_one] at h3
        exact ⟨k, fun _ => ⟨h1, h2, h3⟩⟩
      · exact ⟨0, fun h => absurd h hi⟩
    obtain ⟨E, hE⟩ := Classical.axiomOfChoice each
    have hlr : ((List.range len).map E).length = len := by simp
    refine ⟨(List.range len).map E, _, rfl, some ⟨b, off, none⟩, cap, by rw [hlr], by rw [hlr]; exact hl, hm, fun x hx => ?_, fun i t hi => ?_⟩
    · obtain ⟨j, hj, rfl⟩ := List.mem_map.1 hx
      exact (hE j (List.mem_range.1 hj)).1
    · have hi' := (List.getElem?_eq_some_iff.1 hi).1
      rw [hlr] at hi'
      rw [List.getElem?_map, List.getElem?_range hi'] at hi
      obtain rfl := (Option.some.inj hi).symm
      obtain ⟨_, h2, h3⟩ := hE i hi'
      exact ⟨b, off, rfl, h2, h3⟩

end
end Go.Proofs.YtipepljmfgjbpaaGreatDoor.E5

namespace Go.Proofs.YtipepljmfgjbpaaGreatDoor.E5
open Go Go.RowKit Go.Proofs.YtipepljmfgjbpaaGreatDoor

theorem amt {a b : Bool} (ha : a = true) (hb : b = true) : (a && b) = true := by rw [ha, hb]; rfl
theorem pfLaid : laidOutB Tryz.prog = true := by kernel_rfl
theorem pfMaps : mapsRowed Tryz.prog = true := by kernel_rfl
theorem pfStops : (Tryz.prog.stops == []) = true := by kernel_rfl
theorem pfKnobs : (Tryz.prog.stopKnobs == []) = true := by kernel_rfl
theorem pfHeard : Tryz.prog.stopsHeard = true := by kernel_rfl
theorem pfEnter : Tryz.prog.mayEnter = true := by kernel_rfl
theorem pfMain : Tryz.pinned.checked.prog.mainIs = some (true, "57bf7ada6817e36160371f4b6b73a719c49f0ee071a774306363d25e2a0f44e6".toList) := by kernel_rfl
theorem pfLooks : true = Tryz.pinned.checked.prog.looks [] := by kernel_rfl
end Go.Proofs.YtipepljmfgjbpaaGreatDoor.E5
