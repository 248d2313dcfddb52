/-
  WHAT EVERY ROW OF THIS SEAT SHARES: a world for the witness, the row's end, arguments opened.
-/
import Derived.Test.YtodicpnojcaanaaDoorSLaid
import Derived.Test.YtodicpnojcaanaaDoorSOpenS
import Derived.Test.YtodicpnojcaanaaDoorCards
import Derived.Test.YtodicpnojcaanaaDoorTie
import Derived.ProofKit
import Derived.OpenShut
import Derived.Deep.DeepHandedRow
import Derived.Deep.DeepWitnessRowRef
import Derived.Deep.DeepLaidRun
import Derived.Lib.SmallJoins
import Derived.MakeChecks
import Derived.Stop.LaidErr
namespace Go.Proofs.YtodicpnojcaanaaDoor
open Go Go.ChangeShapes Go.WideShapes Go.ChangeAt Go.RowKit Go.Joins
open Go.ChangeMaps (open_string shut_string)

theorem own : ownKnob Tryd.prog.godebug = none := by kernel_rfl
theorem laidOut : laidOutB Tryd.prog = true := by kernel_rfl

/-! ### A world for the witness: the variables as their initialisers lay them -/
def tabEk : Array Value := (ekRows.flatMap fun r => [.int .i64 r.name, .int .i64 r.first, .int .i64 r.last, .int .i64 r.most, .int .i64 (r.args : Int)]).toArray
def tabSk : Array Value := (skRows.flatMap fun r => [.int .i64 r.name, .int .i64 r.callee, .bool r.typed, .int .i64 (r.fewest : Int), .int .i64 (r.most : Int), .bool r.body, .bool r.other]).toArray
def tabKw : Array Value := (kws.map fun s => Value.string ⟨s.toArray⟩).toArray
def setTo (cs : Array Value) : Obj → Obj
  | .cells _ t frozen => .cells cs t frozen
  | o => o
noncomputable def laidWorld (os : Os) : World :=
  let w0 := World.holding Tryd.prog os ⟨#[], #[], []⟩
  { w0 with heap := ((w0.heap.modify 1 (setTo tabEk)).modify 2 (setTo tabSk)).modify 0 (setTo tabKw) }

section
variable {H : Type} {enc : TypeId × Value → H} {P : Program}
/-- THE ROW's END, where nothing that lay has turned, the arguments read by what lay. -/
theorem post_kept {f : Func} {s : ChangeSpec} {apart fresh handsOn : Bool} {W W' : World} {args : Array Value} {v : Value} {ds gs : List (DataW H)} {before pa pv : List MemPlace}
    (hW : DataW.Whole enc P f.params.toList s.vars apart W args.toList ds gs before)
    (hres : ∀ (b : Nat) (sp : Nat → Bool) (hd : Bool), DataW.TrodAll enc P W' b sp hd f.resultTypes.toList (v.resultList f.resultTypes.size) (s.fn H (ds ++ gs)).results [])
    (hargs : DataW.TrodAll enc P W' 0 (fun b => decide (b < W.heap.size)) true f.params.toList args.toList (s.fn H (ds ++ gs)).args pa)
    (hvars : DataW.TrodVars enc P W' (fun b => decide (b < W.heap.size)) s.vars (s.fn H (ds ++ gs)).vars pv)
    (hps : before = pa ++ pv) (hb : Below W.heap.size W W') : s.post enc P f apart fresh handsOn false W args v W' := by
  refine ⟨ds, gs, before, [], pa, pv, hW, hres _ _ _, hargs, hvars, World.keptBut_mono (fun p hp => ⟨hp, ?_⟩) (hb.frame (· ∈ before)), fun h => by cases h⟩
  rw [hps] at hp
  rcases List.mem_append.1 hp with h | h
  · exact Or.inr (Or.inl h)
  · exact Or.inr (Or.inr h)

variable {W : World} {r : Reach} {b0 base : Nat} {sp : Nat → Bool} {held : Bool} {v : Value} {d : DataW H} {p : List MemPlace}
set_option maxRecDepth 100000 in
theorem open_exprV (hv : Value.okWide Tryd.prog W r b0 24 v) (h : DataW.Trod enc Tryd.prog W base sp held 24 v d p) :
    ∃ (e : Ex) (va : Value), v = eV e va ∧ OkE e ∧ EIn W W.heap.size e.args va := by
  obtain ⟨cs, rfl, _⟩ := okWide_struct Tryd.underlying24 hv
  obtain ⟨fuel, hf⟩ := h
  obtain ⟨k, o, n, s, v', m, y, _, hcs, g0, g1, g2, g3, h4⟩ := open_expr1 hf
  obtain ⟨l, va, hv', hE⟩ := open_exprs m _ _ h4
  cases hv'
  refine ⟨⟨k, o, n, s, l⟩, v', ?_, ⟨g0, g1, g2, g3⟩, hE⟩
  obtain ⟨l'⟩ := cs
  simp [Value.cells] at hcs
  rw [hcs]
set_option maxRecDepth 100000 in
theorem open_stmtV (hv : Value.okWide Tryd.prog W r b0 46 v) (h : DataW.Trod enc Tryd.prog W base sp held 46 v d p) :
    ∃ (s : St) (va vb ve : Value), v = sV s va vb ve ∧ OkS s ∧ EIn W W.heap.size s.args va ∧ SIn W W.heap.size s.body vb ∧ SIn W W.heap.size s.els ve := by
  obtain ⟨cs, rfl, _⟩ := okWide_struct Tryd.underlying46 hv
  obtain ⟨fuel, hf⟩ := h
  obtain ⟨s, va, vb, ve, m, y5, y6, y7, _, hcs, g0, h5, h6, h7⟩ := open_stmt1 hf
  obtain ⟨l5, v5, hv5, hE5⟩ := open_exprs m _ _ h5
  obtain ⟨l6, v6, hv6, hE6⟩ := open_stmts m _ _ h6
  obtain ⟨l7, v7, hv7, hE7⟩ := open_stmts m _ _ h7
  cases hv5; cases hv6; cases hv7
  refine ⟨⟨s.kind, s.no, s.name, s.typ, s.callee, l5, l6, l7⟩, va, vb, ve, ?_, ⟨g0.kind, g0.no, g0.typ, g0.name, g0.callee⟩, hE5, hE6, hE7⟩
  obtain ⟨l'⟩ := cs
  simp [Value.cells] at hcs
  rw [hcs]
set_option maxRecDepth 100000 in
theorem open_progV (hv : Value.okWide Tryd.prog W r b0 35 v) (h : DataW.Trod enc Tryd.prog W base sp held 35 v d p) :
    ∃ (l : List Fn) (va : Value), v = .agg #[va] ∧ FIn W W.heap.size l va := by
  obtain ⟨cs, rfl, hsz⟩ := okWide_struct Tryd.underlying35 hv
  obtain ⟨fuel, hf⟩ := h
  obtain ⟨xs, m, _, _, hl, hlen, hfd⟩ := DataW.trod_struct Tryd.underlying35 hf
  have q1 : Tryd.prog.cellsOf 35 = 1 := by kernel_rfl
  have qF : Tryd.prog.cellsOf 33 = 1 := by kernel_rfl
  obtain ⟨l'⟩ := cs
  simp only [Value.cells] at hl hfd
  rw [q1] at hl
  match l', hl with
  | [a], _ =>
    have h0 := hfd 0 _ rfl
    match xs, hlen with
    | [y], _ =>
      have h0' : DataW.trod enc Tryd.prog W base sp held m 33 [a] = some y := by simpa [qF] using h0
      obtain ⟨l, va, hv', hF⟩ := open_funcs m _ _ h0'
      cases hv'
      exact ⟨l, a, rfl, hF⟩
end

/-- THE CARD's LAST QUESTIONS, for a law number f. -/
theorem plainOf {bl : Bool} {name : String} {f0 : FuncId} {fn0 : Func} (h1 : Tryd.prog.funcNamed name = some f0) (h2 : Tryd.prog.funcs[f0]? = some fn0) (hlooks : bl = Tryd.pinned.checked.prog.looks []) (hall : (fn0.params.all fun u => !Tryd.prog.wantsStandIn u) = true)
    (f : FuncId) (fn : Func) (hf : Tryd.pinned.checked.prog.funcNamed name = some f) (hfn : Tryd.pinned.checked.prog.funcs[f]? = some fn) :
    bl = Tryd.pinned.checked.prog.looks [] ∧ ∀ (j : Nat) t, fn.params[j]? = some t → Tryd.pinned.checked.prog.wantsStandIn t = false := by
  obtain rfl : f = f0 := (Option.some.inj (h1.symm.trans hf)).symm
  obtain rfl : fn = fn0 := (Option.some.inj (h2.symm.trans hfn)).symm
  refine ⟨hlooks, fun j t ht => ?_⟩
  have := Array.all_eq_true_iff_forall_mem.1 hall t (Array.mem_of_getElem? ht)
  show Tryd.prog.wantsStandIn t = false
  simpa using this
end Go.Proofs.YtodicpnojcaanaaDoor
