/-
  What the listed variables give: Glob.
-/
import Derived.Test.YtodicpnojcaanaaDoorSFits
import Derived.Test.YtodicpnojcaanaaDoorRows
import Derived.OpenShut
import Derived.ChangeArms
import Derived.FnData
import Derived.Lib.LaidTab
import Derived.Lib.SmallJoins
import Derived.MakeChecks
namespace Go.Proofs.YtodicpnojcaanaaDoor
open Go Go.RowKit Go.ChangeShapes Go.WideShapes

section
variable {H : Type} {enc : TypeId × Value → H} {P : Program} {w : World} {base : Nat} {spare : Nat → Bool} {held : Bool}

theorem arr_cells {t e : TypeId} {n k fuel : Nat} {cs : List Value} {ds : List (DataW H)} {p : List MemPlace} (ht : P.underlying t = some (.array n e)) (hk : P.cellsOf e = k) (h : DataW.trod enc P w base spare held fuel t cs = some (.agg ds, p)) (i : Nat) (d : DataW H) (hd : ds[i]? = some d) :
    ∃ m p', DataW.trod enc P w base spare held m e ((cs.drop (i * k)).take k) = some (d, p') := by
  obtain ⟨xs, m, _, hx, _, hlen, hel⟩ := DataW.trod_array ht h
  cases hx
  rw [List.getElem?_map] at hd
  obtain ⟨y, hy, rfl⟩ := Option.map_eq_some_iff.1 hd
  have hi := (List.getElem?_eq_some_iff.1 hy).1
  have := hel i (by omega)
  rw [hk, hy] at this
  exact ⟨m, y.2, this⟩
theorem fld_cells {t : TypeId} {fs : Array Field} {fuel : Nat} {cs : List Value} {ds : List (DataW H)} {p : List MemPlace} (ht : P.underlying t = some (.struct fs)) (h : DataW.trod enc P w base spare held fuel t cs = some (.agg ds, p)) (i : Nat) (f : Field) (d : DataW H) (hf : fs[i]? = some f) (hd : ds[i]? = some d) :
    ∃ m p', DataW.trod enc P w base spare held m f.type ((cs.drop f.offset).take (P.cellsOf f.type)) = some (d, p') := by
  obtain ⟨xs, m, _, hx, _, hlen, hel⟩ := DataW.trod_struct ht h
  cases hx
  rw [List.getElem?_map] at hd
  obtain ⟨y, hy, rfl⟩ := Option.map_eq_some_iff.1 hd
  have := hel i f hf
  rw [hy] at this
  exact ⟨m, y.2, this⟩
theorem int_cell {t : TypeId} {k : IntKind} {n : Int} {fuel : Nat} {cs : List Value} {p : List MemPlace} (ht : P.underlying t = some (.int k)) (h : DataW.trod enc P w base spare held fuel t cs = some (.lit (.int k n), p)) : cs = [.int k n] := by
  obtain ⟨m, h1, h2, _⟩ := DataW.trod_int ht h
  simp at h2
  rw [h1, h2.1]
theorem bool_cell {t : TypeId} {b : Bool} {fuel : Nat} {cs : List Value} {p : List MemPlace} (ht : P.underlying t = some .bool) (h : DataW.trod enc P w base spare held fuel t cs = some (.lit (.bool b), p)) : cs = [.bool b] := by
  obtain ⟨m, h1, h2⟩ := DataW.trod_bool ht h
  simp at h2
  rw [h1, h2.1]
theorem str_cell {t : TypeId} {s : List UInt8} {fuel : Nat} {cs : List Value} {p : List MemPlace} (ht : P.underlying t = some .string) (h : DataW.trod enc P w base spare held fuel t cs = some (.lit (.string s), p)) : cs = [.string ⟨s.toArray⟩] := by
  obtain ⟨m, h1, h2, _⟩ := DataW.trod_string ht h
  simp at h2
  rw [h1, h2.1]
theorem take1 {cs : List Value} {i : Nat} {v : Value} (h : (cs.drop i).take 1 = [v]) : cs[i]? = some v := by
  have := congrArg (fun l => l[0]?) h
  simpa [List.getElem?_take] using this
theorem take1of {cs : List Value} {i j k : Nat} {v : Value} (hj : j < k) (h : (((cs.drop i).take k).drop j).take 1 = [v]) : cs[i + j]? = some v := by
  have := take1 h
  rw [List.getElem?_take_of_lt hj, List.getElem?_drop] at this
  exact this
theorem take1at {cs : List Value} {i j k c o : Nat} {v : Value} (hj : j < k) (h : (((cs.drop i).take k).drop o).take c = [v]) (ho : o = j) (hc : c = 1) : cs[i + j]? = some v := by
  subst ho; subst hc; exact take1of hj h
end

def laid3 : List (String × DataW Unit) := [("rewind/shape.exprKinds", Rows.laid_rewind_shape_exprKinds), ("rewind/shape.stmtKinds", Rows.laid_rewind_shape_stmtKinds), ("rewind/shape.keywords", Rows.laid_rewind_shape_keywords)]
theorem gEk : Tryd.prog.globalNamed "rewind/shape.exprKinds" = some 1 := by kernel_rfl
theorem gSk : Tryd.prog.globalNamed "rewind/shape.stmtKinds" = some 2 := by kernel_rfl
theorem gKw : Tryd.prog.globalNamed "rewind/shape.keywords" = some 0 := by kernel_rfl
theorem tEk : (Tryd.prog.globals[1]?).map (·.type) = some 104 := by kernel_rfl
theorem tSk : (Tryd.prog.globals[2]?).map (·.type) = some 131 := by kernel_rfl
theorem tKw : (Tryd.prog.globals[0]?).map (·.type) = some 101 := by kernel_rfl
theorem cEk : Tryd.prog.cellsOf 103 = 5 := by kernel_rfl
theorem cSk : Tryd.prog.cellsOf 130 = 7 := by kernel_rfl
theorem cI64 : Tryd.prog.cellsOf 2 = 1 := by kernel_rfl
theorem cInt : Tryd.prog.cellsOf 3 = 1 := by kernel_rfl
theorem cBool : Tryd.prog.cellsOf 4 = 1 := by kernel_rfl
theorem cStr : Tryd.prog.cellsOf 9 = 1 := by kernel_rfl

theorem kw_of_laid {W : World} {rest : List (String × DataW Unit)} {ps : List MemPlace} (h : DataW.LaidVars Tryd.prog W (("rewind/shape.keywords", Rows.laid_rewind_shape_keywords) :: rest) ps) : GlobK W := by
  obtain ⟨g', t', cs, fuel, p, q, hg', ht', hvar, hd, _, _⟩ := h
  obtain rfl := Option.some.inj (gKw.symm.trans hg')
  obtain rfl := Option.some.inj (tKw.symm.trans ht')
  have c : ∀ (i : Nat) (s : List UInt8), (match (Rows.laid_rewind_shape_keywords : DataW Unit) with | .agg ds => ds | _ => [])[i]? = some (.lit (.string s)) → W.cell? ⟨0, i, none⟩ = some (.string ⟨s.toArray⟩) := fun i s hs => by
    obtain ⟨m, p', h1⟩ := arr_cells Tryd.underlying101 cStr hd i _ hs
    have h2 := str_cell Tryd.underlying9 h1
    rw [Nat.mul_one] at h2
    rw [World.var?_cell gKw hvar i, ← Array.getElem?_toList]
    exact take1 h2
  exact ⟨c 0 _ rfl, c 1 _ rfl, c 2 _ rfl, c 3 _ rfl, c 4 _ rfl, c 5 _ rfl, c 6 _ rfl, c 7 _ rfl, c 8 _ rfl, c 9 _ rfl, c 10 _ rfl, c 11 _ rfl, c 12 _ rfl, c 13 _ rfl, c 14 _ rfl⟩

def dsOf : DataW Unit → List (DataW Unit)
  | .agg ds => ds
  | _ => []
theorem ek_of_laid {W : World} {rest : List (String × DataW Unit)} {ps : List MemPlace} (h : DataW.LaidVars Tryd.prog W (("rewind/shape.exprKinds", Rows.laid_rewind_shape_exprKinds) :: rest) ps) : ∀ k r, ekRows[k]? = some r → EkCells W k r := by
  obtain ⟨g', t', cs, fuel, p, q, hg', ht', hvar, hd, _, _⟩ := h
  obtain rfl := Option.some.inj (gEk.symm.trans hg')
  obtain rfl := Option.some.inj (tEk.symm.trans ht')
  have c : ∀ (k : Nat) (n0 n1 n2 n3 n4 : Int), (dsOf Rows.laid_rewind_shape_exprKinds)[k]? = some (.agg [.lit (.int .i64 n0), .lit (.int .i64 n1), .lit (.int .i64 n2), .lit (.int .i64 n3), .lit (.int .i64 n4)]) →
      W.cell? ⟨1, k * 5, none⟩ = some (.int .i64 n0) ∧ W.cell? ⟨1, k * 5 + 1, none⟩ = some (.int .i64 n1) ∧ W.cell? ⟨1, k * 5 + 2, none⟩ = some (.int .i64 n2) ∧ W.cell? ⟨1, k * 5 + 3, none⟩ = some (.int .i64 n3) ∧ W.cell? ⟨1, k * 5 + 4, none⟩ = some (.int .i64 n4) := by
    intro k n0 n1 n2 n3 n4 hk
    obtain ⟨m, p', h1⟩ := arr_cells Tryd.underlying104 cEk hd k _ hk
    obtain ⟨_, _, g0⟩ := fld_cells Tryd.underlying103 h1 0 _ _ rfl rfl
    obtain ⟨_, _, g1⟩ := fld_cells Tryd.underlying103 h1 1 _ _ rfl rfl
    obtain ⟨_, _, g2⟩ := fld_cells Tryd.underlying103 h1 2 _ _ rfl rfl
    obtain ⟨_, _, g3⟩ := fld_cells Tryd.underlying103 h1 3 _ _ rfl rfl
    obtain ⟨_, _, g4⟩ := fld_cells Tryd.underlying103 h1 4 _ _ rfl rfl
    have e0 := int_cell Tryd.underlying3 g0
    have e1 := int_cell Tryd.underlying3 g1
    have e2 := int_cell Tryd.underlying3 g2
    have e3 := int_cell Tryd.underlying2 g3
    have e4 := int_cell Tryd.underlying3 g4
    refine ⟨?_, ?_, ?_, ?_, ?_⟩
    · rw [World.var?_cell gEk hvar, ← Array.getElem?_toList]; exact take1at (i := k * 5) (j := 0) (by decide) e0 rfl cInt
    · rw [World.var?_cell gEk hvar, ← Array.getElem?_toList]; exact take1at (i := k * 5) (j := 1) (by decide) e1 rfl cInt
    · rw [World.var?_cell gEk hvar, ← Array.getElem?_toList]; exact take1at (i := k * 5) (j := 2) (by decide) e2 rfl cInt
    · rw [World.var?_cell gEk hvar, ← Array.getElem?_toList]; exact take1at (i := k * 5) (j := 3) (by decide) e3 rfl cI64
    · rw [World.var?_cell gEk hvar, ← Array.getElem?_toList]; exact take1at (i := k * 5) (j := 4) (by decide) e4 rfl cInt
  intro k r hr
  rcases k with _ | _ | _ | _ | _ | _ | _ | _ | k
  · cases hr
    obtain ⟨a0, a1, a2, a3, a4⟩ := c 0 _ _ _ _ _ rfl
    exact ⟨a0, a1, a2, a3, a4⟩
  · cases hr
    obtain ⟨a0, a1, a2, a3, a4⟩ := c 1 _ _ _ _ _ rfl
    exact ⟨a0, a1, a2, a3, a4⟩
  · cases hr
    obtain ⟨a0, a1, a2, a3, a4⟩ := c 2 _ _ _ _ _ rfl
    exact ⟨a0, a1, a2, a3, a4⟩
  · cases hr
    obtain ⟨a0, a1, a2, a3, a4⟩ := c 3 _ _ _ _ _ rfl
    exact ⟨a0, a1, a2, a3, a4⟩
  · cases hr
    obtain ⟨a0, a1, a2, a3, a4⟩ := c 4 _ _ _ _ _ rfl
    exact ⟨a0, a1, a2, a3, a4⟩
  · cases hr
    obtain ⟨a0, a1, a2, a3, a4⟩ := c 5 _ _ _ _ _ rfl
    exact ⟨a0, a1, a2, a3, a4⟩
  · cases hr
    obtain ⟨a0, a1, a2, a3, a4⟩ := c 6 _ _ _ _ _ rfl
    exact ⟨a0, a1, a2, a3, a4⟩
  · cases hr
    obtain ⟨a0, a1, a2, a3, a4⟩ := c 7 _ _ _ _ _ rfl
    exact ⟨a0, a1, a2, a3, a4⟩
  · simp [ekRows] at hr

theorem sk_of_laid {W : World} {rest : List (String × DataW Unit)} {ps : List MemPlace} (h : DataW.LaidVars Tryd.prog W (("rewind/shape.stmtKinds", Rows.laid_rewind_shape_stmtKinds) :: rest) ps) : ∀ k r, skRows[k]? = some r → SkCells W k r := by
  obtain ⟨g', t', cs, fuel, p, q, hg', ht', hvar, hd, _, _⟩ := h
  obtain rfl := Option.some.inj (gSk.symm.trans hg')
  obtain rfl := Option.some.inj (tSk.symm.trans ht')
  have c : ∀ (k : Nat) (n0 n1 : Int) (n2 : Bool) (n3 n4 : Int) (n5 n6 : Bool), (dsOf Rows.laid_rewind_shape_stmtKinds)[k]? = some (.agg [.lit (.int .i64 n0), .lit (.int .i64 n1), .lit (.bool n2), .lit (.int .i64 n3), .lit (.int .i64 n4), .lit (.bool n5), .lit (.bool n6)]) →
      W.cell? ⟨2, k * 7, none⟩ = some (.int .i64 n0) ∧ W.cell? ⟨2, k * 7 + 1, none⟩ = some (.int .i64 n1) ∧ W.cell? ⟨2, k * 7 + 2, none⟩ = some (.bool n2) ∧ W.cell? ⟨2, k * 7 + 3, none⟩ = some (.int .i64 n3) ∧ W.cell? ⟨2, k * 7 + 4, none⟩ = some (.int .i64 n4) ∧ W.cell? ⟨2, k * 7 + 5, none⟩ = some (.bool n5) ∧ W.cell? ⟨2, k * 7 + 6, none⟩ = some (.bool n6) := by
    intro k n0 n1 n2 n3 n4 n5 n6 hk
    obtain ⟨m, p', h1⟩ := arr_cells Tryd.underlying131 cSk hd k _ hk
    obtain ⟨_, _, g0⟩ := fld_cells Tryd.underlying130 h1 0 _ _ rfl rfl
    have e0 := int_cell Tryd.underlying3 g0
    obtain ⟨_, _, g1⟩ := fld_cells Tryd.underlying130 h1 1 _ _ rfl rfl
    have e1 := int_cell Tryd.underlying3 g1
    obtain ⟨_, _, g2⟩ := fld_cells Tryd.underlying130 h1 2 _ _ rfl rfl
    have e2 := bool_cell Tryd.underlying4 g2
    obtain ⟨_, _, g3⟩ := fld_cells Tryd.underlying130 h1 3 _ _ rfl rfl
    have e3 := int_cell Tryd.underlying3 g3
    obtain ⟨_, _, g4⟩ := fld_cells Tryd.underlying130 h1 4 _ _ rfl rfl
    have e4 := int_cell Tryd.underlying3 g4
    obtain ⟨_, _, g5⟩ := fld_cells Tryd.underlying130 h1 5 _ _ rfl rfl
    have e5 := bool_cell Tryd.underlying4 g5
    obtain ⟨_, _, g6⟩ := fld_cells Tryd.underlying130 h1 6 _ _ rfl rfl
    have e6 := bool_cell Tryd.underlying4 g6
    refine ⟨?_, ?_, ?_, ?_, ?_, ?_, ?_⟩
    · rw [World.var?_cell gSk hvar, ← Array.getElem?_toList]; exact take1at (i := k * 7) (j := 0) (by decide) e0 rfl cInt
    · rw [World.var?_cell gSk hvar, ← Array.getElem?_toList]; exact take1at (i := k * 7) (j := 1) (by decide) e1 rfl cInt
    · rw [World.var?_cell gSk hvar, ← Array.getElem?_toList]; exact take1at (i := k * 7) (j := 2) (by decide) e2 rfl cBool
    · rw [World.var?_cell gSk hvar, ← Array.getElem?_toList]; exact take1at (i := k * 7) (j := 3) (by decide) e3 rfl cInt
    · rw [World.var?_cell gSk hvar, ← Array.getElem?_toList]; exact take1at (i := k * 7) (j := 4) (by decide) e4 rfl cInt
    · rw [World.var?_cell gSk hvar, ← Array.getElem?_toList]; exact take1at (i := k * 7) (j := 5) (by decide) e5 rfl cBool
    · rw [World.var?_cell gSk hvar, ← Array.getElem?_toList]; exact take1at (i := k * 7) (j := 6) (by decide) e6 rfl cBool
  intro k r hr
  rcases k with _ | _ | _ | _ | _ | _ | _ | _ | _ | _ | _ | k
  · cases hr
    obtain ⟨a0, a1, a2, a3, a4, a5, a6⟩ := c 0 _ _ _ _ _ _ _ rfl
    exact ⟨a0, a1, a2, a3, a4, a5, a6⟩
  · cases hr
    obtain ⟨a0, a1, a2, a3, a4, a5, a6⟩ := c 1 _ _ _ _ _ _ _ rfl
    exact ⟨a0, a1, a2, a3, a4, a5, a6⟩
  · cases hr
    obtain ⟨a0, a1, a2, a3, a4, a5, a6⟩ := c 2 _ _ _ _ _ _ _ rfl
    exact ⟨a0, a1, a2, a3, a4, a5, a6⟩
  · cases hr
    obtain ⟨a0, a1, a2, a3, a4, a5, a6⟩ := c 3 _ _ _ _ _ _ _ rfl
    exact ⟨a0, a1, a2, a3, a4, a5, a6⟩
  · cases hr
    obtain ⟨a0, a1, a2, a3, a4, a5, a6⟩ := c 4 _ _ _ _ _ _ _ rfl
    exact ⟨a0, a1, a2, a3, a4, a5, a6⟩
  · cases hr
    obtain ⟨a0, a1, a2, a3, a4, a5, a6⟩ := c 5 _ _ _ _ _ _ _ rfl
    exact ⟨a0, a1, a2, a3, a4, a5, a6⟩
  · cases hr
    obtain ⟨a0, a1, a2, a3, a4, a5, a6⟩ := c 6 _ _ _ _ _ _ _ rfl
    exact ⟨a0, a1, a2, a3, a4, a5, a6⟩
  · cases hr
    obtain ⟨a0, a1, a2, a3, a4, a5, a6⟩ := c 7 _ _ _ _ _ _ _ rfl
    exact ⟨a0, a1, a2, a3, a4, a5, a6⟩
  · cases hr
    obtain ⟨a0, a1, a2, a3, a4, a5, a6⟩ := c 8 _ _ _ _ _ _ _ rfl
    exact ⟨a0, a1, a2, a3, a4, a5, a6⟩
  · cases hr
    obtain ⟨a0, a1, a2, a3, a4, a5, a6⟩ := c 9 _ _ _ _ _ _ _ rfl
    exact ⟨a0, a1, a2, a3, a4, a5, a6⟩
  · cases hr
    obtain ⟨a0, a1, a2, a3, a4, a5, a6⟩ := c 10 _ _ _ _ _ _ _ rfl
    exact ⟨a0, a1, a2, a3, a4, a5, a6⟩
  · simp [skRows] at hr
theorem glob_of_laid {W : World} (h : laidMetH Tryd.prog laid3 W) : Glob W := by
  rw [MakeChecks.laidMetH_plain _ _ _ (by kernel_rfl)] at h
  obtain ⟨ps, h1, _⟩ := h
  have k1 := ek_of_laid h1
  obtain ⟨_, _, _, _, _, _, _, _, _, _, h2, _⟩ := h1
  have k2 := sk_of_laid h2
  obtain ⟨_, _, _, _, _, _, _, _, _, _, h3, _⟩ := h2
  refine ⟨kw_of_laid h3, k1, k2, ?_⟩
  exact World.block_lt_of_cell? _ _ (k2 0 _ rfl).c0
end Go.Proofs.YtodicpnojcaanaaDoor
