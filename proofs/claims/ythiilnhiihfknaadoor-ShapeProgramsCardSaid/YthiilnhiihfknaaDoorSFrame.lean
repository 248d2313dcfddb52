/-
  A datum read at []Expr, opened: ER over the blocks of the heap.
  A datum read at []Stmt, []Param, []Func, opened: SR, PR, FR over the blocks of the heap.
  What the listed variables give: Glob.
  WHAT EVERY ROW OF THIS SEAT SHARES: a world for the witness, the row's end, arguments opened.
-/
import Derived.Test.YthiilnhiihfknaaDoorSMm
import Derived.OpenShut
import Derived.ChangeArms
import Derived.DataReads
import Derived.Lib.SmallJoins
import Derived.Test.YthiilnhiihfknaaDoorSFits
import Derived.Test.YthiilnhiihfknaaDoorRows
import Derived.FnData
import Derived.Lib.LaidTab
import Derived.MakeChecks
import Derived.Test.YthiilnhiihfknaaDoorCards
import Derived.Test.YthiilnhiihfknaaDoorTie
import Derived.ProofKit
import Derived.Deep.DeepHandedRow
import Derived.Deep.DeepWitnessRowRef
import Derived.Deep.DeepLaidRun
import Derived.Stop.LaidErr
namespace Go.Proofs.YthiilnhiihfknaaDoor
open Go Go.RowKit Go.ChangeShapes Go.WideShapes Go.ChangeAt

theorem list5 {α : Type} {cs : List α} (h : cs.length = 5) : ∃ a b c d e, cs = [a, b, c, d, e] := by
  match cs, h with
  | [a, b, c, d, e], _ => exact ⟨a, b, c, d, e, rfl⟩
theorem list8 {α : Type} {cs : List α} (h : cs.length = 8) : ∃ a b c d e f g i, cs = [a, b, c, d, e, f, g, i] := by
  match cs, h with
  | [a, b, c, d, e, f, g, i], _ => exact ⟨a, b, c, d, e, f, g, i, rfl⟩
theorem okI_wf {n : Int} (h : (Lit.int .i64 n).wf = true) : okI n := by
  unfold okI
  simpa [Lit.wf, IntKind.min, IntKind.max, IntKind.signed, IntKind.bits] using h

section
variable {H : Type} {enc : TypeId × Value → H} {w : World} {base : Nat} {spare : Nat → Bool} {held : Bool}

theorem open_expr1 {fuel : Nat} {cs : List Value} {x : DataW H × List MemPlace} (h : DataW.trod enc Tryd.prog w base spare held fuel 24 cs = some x) :
    ∃ (k o n : Int) (s : Bytes) (v : Value) (m : Nat) (y : DataW H × List MemPlace), fuel = m + 1 ∧ cs = [.int .i64 k, .int .i64 o, .int .i64 n, .string (B s), v] ∧ okI k ∧ okI o ∧ okI n ∧ s.length ≤ 9223372036854775807 ∧ DataW.trod enc Tryd.prog w base spare held m 22 [v] = some y := by
  obtain ⟨xs, m, hf, _, hl, hlen, hfd⟩ := DataW.trod_struct Tryd.underlying24 h
  obtain ⟨a, b, c, d, e, rfl⟩ := list5 (hl.trans (by kernel_rfl : Tryd.prog.cellsOf 24 = 5))
  obtain ⟨y0, y1, y2, y3, y4, rfl⟩ := list5 hlen
  have q3 : Tryd.prog.cellsOf 3 = 1 := by kernel_rfl
  have q2 : Tryd.prog.cellsOf 2 = 1 := by kernel_rfl
  have q9 : Tryd.prog.cellsOf 9 = 1 := by kernel_rfl
  have qs : Tryd.prog.cellsOf 22 = 1 := by kernel_rfl
  have f0 : DataW.trod enc Tryd.prog w base spare held m 3 [a] = some y0 := by simpa [q3] using hfd 0 _ rfl
  have f1 : DataW.trod enc Tryd.prog w base spare held m 3 [b] = some y1 := by simpa [q3] using hfd 1 _ rfl
  have f2 : DataW.trod enc Tryd.prog w base spare held m 2 [c] = some y2 := by simpa [q2] using hfd 2 _ rfl
  have f3 : DataW.trod enc Tryd.prog w base spare held m 9 [d] = some y3 := by simpa [q9] using hfd 3 _ rfl
  have f4 : DataW.trod enc Tryd.prog w base spare held m 22 [e] = some y4 := by simpa [qs] using hfd 4 _ rfl
  obtain ⟨k, hk, _, wk⟩ := DataW.trod_int Tryd.underlying3 f0
  obtain ⟨o, ho, _, wo⟩ := DataW.trod_int Tryd.underlying3 f1
  obtain ⟨n, hn, _, wn⟩ := DataW.trod_int Tryd.underlying2 f2
  obtain ⟨s, hs, _, ws⟩ := DataW.trod_string Tryd.underlying9 f3
  cases hk; cases ho; cases hn; cases hs
  refine ⟨k, o, n, s.data.toList, e, m, y4, hf, rfl, okI_wf wk, okI_wf wo, okI_wf wn, ?_, f4⟩
  have : s.data.size ≤ maxLen := ws
  unfold maxLen at this
  simpa using this

theorem open_exprs (fuel : Nat) : ∀ (cs : List Value) (x : DataW H × List MemPlace), DataW.trod enc Tryd.prog w base spare held fuel 22 cs = some x → ∃ l v, cs = [v] ∧ EIn w w.heap.size l v := by
  induction fuel using Nat.strongRecOn with
  | ind fuel ih =>
    intro cs x h
    rcases DataW.trod_slice Tryd.underlying22 h with ⟨rfl, _⟩ | ⟨a, len, cap, elems, rest, n, hf, rfl, _, hb, hl, hm, hlen, hel, _, _⟩
    · exact ⟨[], _, rfl, ER.nil _ _⟩
    · have q5 : Tryd.prog.cellsOf 24 = 5 := by kernel_rfl
      rw [q5] at hel
      by_cases hz : len = 0
      · subst hz
        exact ⟨[], _, rfl, ER.nil _ _⟩
      obtain ⟨b, off, spot⟩ := a
      have hspot : spot = none := by
        have h1 := hel 0 (by omega)
        rw [List.getElem?_eq_getElem (by omega)] at h1
        obtain ⟨cs', hc, ht⟩ := Option.bind_eq_some_iff.1 h1
        obtain ⟨k, o, n', s, v, m, y, hm', rfl, _⟩ := open_expr1 ht
        obtain ⟨_, _, hcell⟩ := World.cells?_some hc
        simpa [Addr.add] using World.cell?_spot ((hcell 0 (by decide)).trans rfl)
      subst hspot
      have each : ∀ i, ∃ (e : Ex) (v : Value), i < len → OkE e ∧ ER w (fun b => b < w.heap.size) e.args v ∧ b < w.heap.size ∧ ECells w b (off + i * 5) e v := by
        intro i
        by_cases hi : i < len
        · have h1 := hel i hi
          rw [List.getElem?_eq_getElem (by omega)] at h1
          obtain ⟨cs', hc, ht⟩ := Option.bind_eq_some_iff.1 h1
          obtain ⟨k, o, n', s, v, m, y, hm', rfl, g0, g1, g2, g3, h2⟩ := open_expr1 ht
          obtain ⟨l', v', hv, hE⟩ := ih m (by omega) _ _ h2
          cases hv
          obtain ⟨_, _, hcell⟩ := World.cells?_some hc
          have c0 := hcell 0 (by decide)
          have c1 := hcell 1 (by decide)
          have c2 := hcell 2 (by decide)
          have c3 := hcell 3 (by decide)
          have c4 := hcell 4 (by decide)
          rw [add_plain, add_plain] at c0 c1 c2 c3 c4
          exact ⟨⟨k, o, n', s, l'⟩, v, fun _ => ⟨⟨g0, g1, g2, g3⟩, hE, World.block_lt_of_cell? _ _ c0, ⟨c0, c1, c2, c3, c4⟩⟩⟩
        · exact ⟨⟨0, 0, 0, [], []⟩, .bool false, fun h => absurd h hi⟩
      obtain ⟨E, hE⟩ := Classical.axiomOfChoice each
      obtain ⟨V, hV⟩ := Classical.axiomOfChoice hE
      unfold maxLen at hm
      have hlr : ((List.range len).map E).length = len := by simp
      have hget : ∀ (i : Nat) e, ((List.range len).map E)[i]? = some e → i < len ∧ e = E i := by
        intro i e hi
        have hi' := (List.getElem?_eq_some_iff.1 hi).1
        rw [hlr] at hi'
        refine ⟨hi', ?_⟩
        rw [List.getElem?_map, List.getElem?_range hi'] at hi
        exact (Option.some.inj hi).symm
      refine ⟨(List.range len).map E, _, rfl, ?_⟩
      have := ER.mk (w := w) (R := fun b => b < w.heap.size) ((List.range len).map E) (some ⟨b, off, none⟩) cap V (by rw [hlr]; omega) (fun i e hi => ?_) (fun i e hi => ?_)
      · rwa [hlr] at this
      · obtain ⟨h1, rfl⟩ := hget i e hi
        obtain ⟨g1, _, g3, g4⟩ := hV i h1
        exact ⟨b, off, rfl, g3, g1, g4⟩
      · obtain ⟨h1, rfl⟩ := hget i e hi
        exact (hV i h1).2.1
end
end Go.Proofs.YthiilnhiihfknaaDoor

namespace Go.Proofs.YthiilnhiihfknaaDoor
open Go Go.RowKit Go.ChangeShapes Go.WideShapes Go.ChangeAt

section
variable {H : Type} {enc : TypeId × Value → H} {w : World} {base : Nat} {spare : Nat → Bool} {held : Bool}

theorem q3 : Tryd.prog.cellsOf 3 = 1 := by kernel_rfl
theorem q9 : Tryd.prog.cellsOf 9 = 1 := by kernel_rfl
theorem qE : Tryd.prog.cellsOf 22 = 1 := by kernel_rfl
theorem qS : Tryd.prog.cellsOf 41 = 1 := by kernel_rfl
theorem qP : Tryd.prog.cellsOf 40 = 1 := by kernel_rfl
theorem str_len {s : ByteArray} (h : s.size ≤ maxLen) : s.data.toList.length ≤ 9223372036854775807 := by
  have : s.data.size ≤ maxLen := h
  unfold maxLen at this
  simpa using this

theorem open_stmt1 {fuel : Nat} {cs : List Value} {x : DataW H × List MemPlace} (h : DataW.trod enc Tryd.prog w base spare held fuel 46 cs = some x) :
    ∃ (s : St) (va vb ve : Value) (m : Nat) (y5 y6 y7 : DataW H × List MemPlace), fuel = m + 1 ∧ cs = [.int .i64 s.kind, .int .i64 s.no, .string (B s.name), .int .i64 s.typ, .string (B s.callee), va, vb, ve] ∧ OkS s ∧
      DataW.trod enc Tryd.prog w base spare held m 22 [va] = some y5 ∧ DataW.trod enc Tryd.prog w base spare held m 41 [vb] = some y6 ∧ DataW.trod enc Tryd.prog w base spare held m 41 [ve] = some y7 := by
  obtain ⟨xs, m, hf, _, hl, hlen, hfd⟩ := DataW.trod_struct Tryd.underlying46 h
  obtain ⟨a, b, c, d, e, f, g, i, rfl⟩ := list8 (hl.trans (by kernel_rfl : Tryd.prog.cellsOf 46 = 8))
  obtain ⟨y0, y1, y2, y3, y4, y5, y6, y7, rfl⟩ := list8 hlen
  have f0 : DataW.trod enc Tryd.prog w base spare held m 3 [a] = some y0 := by simpa [q3] using hfd 0 _ rfl
  have f1 : DataW.trod enc Tryd.prog w base spare held m 3 [b] = some y1 := by simpa [q3] using hfd 1 _ rfl
  have f2 : DataW.trod enc Tryd.prog w base spare held m 9 [c] = some y2 := by simpa [q9] using hfd 2 _ rfl
  have f3 : DataW.trod enc Tryd.prog w base spare held m 3 [d] = some y3 := by simpa [q3] using hfd 3 _ rfl
  have f4 : DataW.trod enc Tryd.prog w base spare held m 9 [e] = some y4 := by simpa [q9] using hfd 4 _ rfl
  have f5 : DataW.trod enc Tryd.prog w base spare held m 22 [f] = some y5 := by simpa [qE] using hfd 5 _ rfl
  have f6 : DataW.trod enc Tryd.prog w base spare held m 41 [g] = some y6 := by simpa [qS] using hfd 6 _ rfl
  have f7 : DataW.trod enc Tryd.prog w base spare held m 41 [i] = some y7 := by simpa [qS] using hfd 7 _ rfl
  obtain ⟨k, hk, _, wk⟩ := DataW.trod_int Tryd.underlying3 f0
  obtain ⟨o, ho, _, wo⟩ := DataW.trod_int Tryd.underlying3 f1
  obtain ⟨s, hs, _, ws⟩ := DataW.trod_string Tryd.underlying9 f2
  obtain ⟨n, hn, _, wn⟩ := DataW.trod_int Tryd.underlying3 f3
  obtain ⟨z, hz, _, wz⟩ := DataW.trod_string Tryd.underlying9 f4
  cases hk; cases ho; cases hn; cases hs; cases hz
  exact ⟨⟨k, o, s.data.toList, n, z.data.toList, [], [], []⟩, f, g, i, m, y5, y6, y7, hf, rfl, ⟨okI_wf wk, okI_wf wo, okI_wf wn, str_len ws, str_len wz⟩, f5, f6, f7⟩

theorem open_stmts (fuel : Nat) : ∀ (cs : List Value) (x : DataW H × List MemPlace), DataW.trod enc Tryd.prog w base spare held fuel 41 cs = some x → ∃ l v, cs = [v] ∧ SIn w w.heap.size l v := by
  induction fuel using Nat.strongRecOn with
  | ind fuel ih =>
    intro cs x h
    rcases DataW.trod_slice Tryd.underlying41 h with ⟨rfl, _⟩ | ⟨a, len, cap, elems, rest, n, hf, rfl, _, hb, hl, hm, hlen, hel, _, _⟩
    · exact ⟨[], _, rfl, SR.nil _ _⟩
    · have q8 : Tryd.prog.cellsOf 46 = 8 := by kernel_rfl
      rw [q8] at hel
      by_cases hz : len = 0
      · subst hz
        exact ⟨[], _, rfl, SR.nil _ _⟩
      obtain ⟨b, off, spot⟩ := a
      have hspot : spot = none := by
        have h1 := hel 0 (by omega)
        rw [List.getElem?_eq_getElem (by omega)] at h1
        obtain ⟨cs', hc, ht⟩ := Option.bind_eq_some_iff.1 h1
        obtain ⟨s, va, vb, ve, m, y5, y6, y7, hm', rfl, _⟩ := open_stmt1 ht
        obtain ⟨_, _, hcell⟩ := World.cells?_some hc
        simpa [Addr.add] using World.cell?_spot ((hcell 0 (by decide)).trans rfl)
      subst hspot
      have each : ∀ i, ∃ (s : St) (va vb ve : Value), i < len → OkS s ∧ ER w (fun b => b < w.heap.size) s.args va ∧ SR w (fun b => b < w.heap.size) s.body vb ∧ SR w (fun b => b < w.heap.size) s.els ve ∧ b < w.heap.size ∧ SCells w b (off + i * 8) s va vb ve := by
        intro i
        by_cases hi : i < len
        · have h1 := hel i hi
          rw [List.getElem?_eq_getElem (by omega)] at h1
          obtain ⟨cs', hc, ht⟩ := Option.bind_eq_some_iff.1 h1
          obtain ⟨s, va, vb, ve, m, y5, y6, y7, hm', rfl, g0, h5, h6, h7⟩ := open_stmt1 ht
          obtain ⟨l5, v5, hv5, hE5⟩ := open_exprs m _ _ h5
          obtain ⟨l6, v6, hv6, hE6⟩ := ih m (by omega) _ _ h6
          obtain ⟨l7, v7, hv7, hE7⟩ := ih m (by omega) _ _ h7
          cases hv5; cases hv6; cases hv7
          obtain ⟨_, _, hcell⟩ := World.cells?_some hc
          have c0 := hcell 0 (by decide)
          have c1 := hcell 1 (by decide)
          have c2 := hcell 2 (by decide)
          have c3 := hcell 3 (by decide)
          have c4 := hcell 4 (by decide)
          have c5 := hcell 5 (by decide)
          have c6 := hcell 6 (by decide)
          have c7 := hcell 7 (by decide)
          rw [add_plain, add_plain] at c0 c1 c2 c3 c4 c5 c6 c7
          exact ⟨⟨s.kind, s.no, s.name, s.typ, s.callee, l5, l6, l7⟩, va, vb, ve, fun _ => ⟨⟨g0.kind, g0.no, g0.typ, g0.name, g0.callee⟩, hE5, hE6, hE7, World.block_lt_of_cell? _ _ c0, ⟨c0, c1, c2, c3, c4, c5, c6, c7⟩⟩⟩
        · exact ⟨⟨0, 0, [], 0, [], [], [], []⟩, .bool false, .bool false, .bool false, fun h => absurd h hi⟩
      obtain ⟨E, hE⟩ := Classical.axiomOfChoice each
      obtain ⟨Va, hE⟩ := Classical.axiomOfChoice hE
      obtain ⟨Vb, hE⟩ := Classical.axiomOfChoice hE
      obtain ⟨Ve, hV⟩ := Classical.axiomOfChoice hE
      unfold maxLen at hm
      have hlr : ((List.range len).map E).length = len := by simp
      have hget : ∀ (i : Nat) e, ((List.range len).map E)[i]? = some e → i < len ∧ e = E i := by
        intro i e hi
        have hi' := (List.getElem?_eq_some_iff.1 hi).1
        rw [hlr] at hi'
        refine ⟨hi', ?_⟩
        rw [List.getElem?_map, List.getElem?_range hi'] at hi
        exact (Option.some.inj hi).symm
      refine ⟨(List.range len).map E, _, rfl, ?_⟩
      have := SR.mk (w := w) (R := fun b => b < w.heap.size) ((List.range len).map E) (some ⟨b, off, none⟩) cap Va Vb Ve (by rw [hlr]; omega) (fun i e hi => ?_) (fun i e hi => ?_) (fun i e hi => ?_) (fun i e hi => ?_)
      · rwa [hlr] at this
      · obtain ⟨h1, rfl⟩ := hget i e hi
        obtain ⟨g1, _, _, _, g3, g4⟩ := hV i h1
        exact ⟨b, off, rfl, g3, g1, g4⟩
      · obtain ⟨h1, rfl⟩ := hget i e hi
        exact (hV i h1).2.1
      · obtain ⟨h1, rfl⟩ := hget i e hi
        exact (hV i h1).2.2.1
      · obtain ⟨h1, rfl⟩ := hget i e hi
        exact (hV i h1).2.2.2.1

theorem list2 {α : Type} {cs : List α} (h : cs.length = 2) : ∃ a b, cs = [a, b] := by
  match cs, h with
  | [a, b], _ => exact ⟨a, b, rfl⟩
theorem open_params (fuel : Nat) (cs : List Value) (x : DataW H × List MemPlace) (h : DataW.trod enc Tryd.prog w base spare held fuel 40 cs = some x) : ∃ l v, cs = [v] ∧ PIn w w.heap.size l v := by
  rcases DataW.trod_slice Tryd.underlying40 h with ⟨rfl, _⟩ | ⟨a, len, cap, elems, rest, n, hf, rfl, _, hb, hl, hm, hlen, hel, _, _⟩
  · exact ⟨[], _, rfl, PR.nil _ _⟩
  · have q8 : Tryd.prog.cellsOf 61 = 2 := by kernel_rfl
    rw [q8] at hel
    by_cases hz : len = 0
    · subst hz
      exact ⟨[], _, rfl, PR.nil _ _⟩
    have one : ∀ i, i < len → ∃ p : Pa, OkP p ∧ w.cell? ((a.add (i * 2)).add 0) = some (.string (B p.name)) ∧ w.cell? ((a.add (i * 2)).add 1) = some (.int .i64 p.typ) := by
      intro i hi
      have h1 := hel i hi
      rw [List.getElem?_eq_getElem (by omega)] at h1
      obtain ⟨cs', hc, ht⟩ := Option.bind_eq_some_iff.1 h1
      obtain ⟨xs, m, hf, _, hl, hlen', hfd⟩ := DataW.trod_struct Tryd.underlying61 ht
      obtain ⟨a', b', rfl⟩ := list2 (hl.trans q8)
      obtain ⟨y0, y1, rfl⟩ := list2 hlen'
      have f0 : DataW.trod enc Tryd.prog w base spare held m 9 [a'] = some y0 := by simpa [q9] using hfd 0 _ rfl
      have f1 : DataW.trod enc Tryd.prog w base spare held m 3 [b'] = some y1 := by simpa [q3] using hfd 1 _ rfl
      obtain ⟨s, hs, _, ws⟩ := DataW.trod_string Tryd.underlying9 f0
      obtain ⟨k, hk, _, wk⟩ := DataW.trod_int Tryd.underlying3 f1
      cases hk; cases hs
      obtain ⟨_, _, hcell⟩ := World.cells?_some hc
      exact ⟨⟨s.data.toList, k⟩, ⟨str_len ws, okI_wf wk⟩, hcell 0 (by decide), hcell 1 (by decide)⟩
    obtain ⟨b, off, spot⟩ := a
    have hspot : spot = none := by
      obtain ⟨p, _, c0, _⟩ := one 0 (by omega)
      simpa [Addr.add] using World.cell?_spot c0
    subst hspot
    have each : ∀ i, ∃ p : Pa, i < len → OkP p ∧ b < w.heap.size ∧ PCells w b (off + i * 2) p := by
      intro i
      by_cases hi : i < len
      · obtain ⟨p, g0, c0, c1⟩ := one i hi
        rw [add_plain, add_plain] at c0 c1
        exact ⟨p, fun _ => ⟨g0, World.block_lt_of_cell? _ _ c0, ⟨c0, c1⟩⟩⟩
      · exact ⟨⟨[], 0⟩, fun h => absurd h hi⟩
    obtain ⟨E, hV⟩ := Classical.axiomOfChoice each
    unfold maxLen at hm
    have hlr : ((List.range len).map E).length = len := by simp
    refine ⟨(List.range len).map E, _, rfl, ⟨some ⟨b, off, none⟩, cap, by rw [hlr], by rw [hlr]; omega, fun i p hi => ?_⟩⟩
    have hi' := (List.getElem?_eq_some_iff.1 hi).1
    rw [hlr] at hi'
    rw [List.getElem?_map, List.getElem?_range hi'] at hi
    cases hi
    obtain ⟨g1, g2, g3⟩ := hV i hi'
    exact ⟨b, off, rfl, g2, g1, g3⟩

theorem open_funcs (fuel : Nat) (cs : List Value) (x : DataW H × List MemPlace) (h : DataW.trod enc Tryd.prog w base spare held fuel 33 cs = some x) : ∃ l v, cs = [v] ∧ FIn w w.heap.size l v ∧ ∃ A c, v = .slice A l.length c ∧ l.length ≤ c := by
  rcases DataW.trod_slice Tryd.underlying33 h with ⟨rfl, _⟩ | ⟨a, len, cap, elems, rest, n, hf, rfl, _, hb, hl, hm, hlen, hel, _, _⟩
  · exact ⟨[], _, rfl, FR.nil _ _, _, _, rfl, Nat.zero_le _⟩
  · have q8 : Tryd.prog.cellsOf 43 = 5 := by kernel_rfl
    rw [q8] at hel
    by_cases hz : len = 0
    · subst hz
      exact ⟨[], _, rfl, FR.nil _ _, _, _, rfl, Nat.zero_le _⟩
    have one : ∀ i, i < len → ∃ (f : Fn) (vp vb : Value), OkF f ∧ PIn w w.heap.size f.params vp ∧ SIn w w.heap.size f.body vb ∧ w.cell? ((a.add (i * 5)).add 0) = some (.string (B f.name)) ∧ w.cell? ((a.add (i * 5)).add 1) = some vp ∧ w.cell? ((a.add (i * 5)).add 2) = some (.int .i64 f.result) ∧ w.cell? ((a.add (i * 5)).add 3) = some vb ∧ w.cell? ((a.add (i * 5)).add 4) = some (.int .i64 f.count) := by
      intro i hi
      have h1 := hel i hi
      rw [List.getElem?_eq_getElem (by omega)] at h1
      obtain ⟨cs', hc, ht⟩ := Option.bind_eq_some_iff.1 h1
      obtain ⟨xs, m, hf, _, hl, hlen', hfd⟩ := DataW.trod_struct Tryd.underlying43 ht
      obtain ⟨a', b', c', d', e', rfl⟩ := list5 (hl.trans q8)
      obtain ⟨y0, y1, y2, y3, y4, rfl⟩ := list5 hlen'
      have f0 : DataW.trod enc Tryd.prog w base spare held m 9 [a'] = some y0 := by simpa [q9] using hfd 0 _ rfl
      have f1 : DataW.trod enc Tryd.prog w base spare held m 40 [b'] = some y1 := by simpa [qP] using hfd 1 _ rfl
      have f2 : DataW.trod enc Tryd.prog w base spare held m 3 [c'] = some y2 := by simpa [q3] using hfd 2 _ rfl
      have f3 : DataW.trod enc Tryd.prog w base spare held m 41 [d'] = some y3 := by simpa [qS] using hfd 3 _ rfl
      have f4 : DataW.trod enc Tryd.prog w base spare held m 3 [e'] = some y4 := by simpa [q3] using hfd 4 _ rfl
      obtain ⟨s, hs, _, ws⟩ := DataW.trod_string Tryd.underlying9 f0
      obtain ⟨k, hk, _, wk⟩ := DataW.trod_int Tryd.underlying3 f2
      obtain ⟨o, ho, _, wo⟩ := DataW.trod_int Tryd.underlying3 f4
      obtain ⟨lp, vp, hp, hP⟩ := open_params m _ _ f1
      obtain ⟨lb, vb, hb', hB⟩ := open_stmts m _ _ f3
      cases hk; cases hs; cases ho; cases hp; cases hb'
      obtain ⟨_, _, hcell⟩ := World.cells?_some hc
      exact ⟨⟨s.data.toList, lp, k, lb, o⟩, b', d', ⟨str_len ws, okI_wf wk, okI_wf wo⟩, hP, hB, hcell 0 (by decide), hcell 1 (by decide), hcell 2 (by decide), hcell 3 (by decide), hcell 4 (by decide)⟩
    obtain ⟨b, off, spot⟩ := a
    have hspot : spot = none := by
      obtain ⟨p, _, _, _, _, _, c0, _⟩ := one 0 (by omega)
      simpa [Addr.add] using World.cell?_spot c0
    subst hspot
    have each : ∀ i, ∃ (f : Fn) (vp vb : Value), i < len → OkF f ∧ b < w.heap.size ∧ FCells w b (off + i * 5) f vp vb ∧ PIn w w.heap.size f.params vp ∧ SIn w w.heap.size f.body vb := by
      intro i
      by_cases hi : i < len
      · obtain ⟨f, vp, vb, g0, hP, hB, c0, c1, c2, c3, c4⟩ := one i hi
        rw [add_plain, add_plain] at c0 c1 c2 c3 c4
        exact ⟨f, vp, vb, fun _ => ⟨g0, World.block_lt_of_cell? _ _ c0, ⟨c0, c1, c2, c3, c4⟩, hP, hB⟩⟩
      · exact ⟨⟨[], [], 0, [], 0⟩, .bool false, .bool false, fun h => absurd h hi⟩
    obtain ⟨E, hE⟩ := Classical.axiomOfChoice each
    obtain ⟨Vp, hE⟩ := Classical.axiomOfChoice hE
    obtain ⟨Vb, hV⟩ := Classical.axiomOfChoice hE
    unfold maxLen at hm
    have hlr : ((List.range len).map E).length = len := by simp
    refine ⟨(List.range len).map E, _, rfl, ⟨some ⟨b, off, none⟩, cap, by rw [hlr], by rw [hlr]; omega, fun i p hi => ?_⟩, some ⟨b, off, none⟩, cap, by rw [hlr], by rw [hlr]; exact hl⟩
    have hi' := (List.getElem?_eq_some_iff.1 hi).1
    rw [hlr] at hi'
    rw [List.getElem?_map, List.getElem?_range hi'] at hi
    cases hi
    obtain ⟨g1, g2, g3, g4, g5⟩ := hV i hi'
    exact ⟨b, off, Vp i, Vb i, rfl, g2, g1, g3, g4, g5⟩
end
end Go.Proofs.YthiilnhiihfknaaDoor

namespace Go.Proofs.YthiilnhiihfknaaDoor
open Go Go.RowKit Go.ChangeShapes Go.WideShapes

section
variable {H : Type} {enc : TypeId × Value → H} {P : Program} {w : World} {base : Nat} {spare : Nat → Bool} {held : Bool}

theorem arr_cells {t e : TypeId} {n k fuel : Nat} {cs : List Value} {ds : List (DataW H)} {p : List MemPlace} (ht : P.underlying t = some (.array n e)) (hk : P.cellsOf e = k) (h : DataW.trod enc P w base spare held fuel t cs = some (.agg ds, p)) (i : Nat) (d : DataW H) (hd : ds[i]? = some d) :
    ∃ m p', DataW.trod enc P w base spare held m e ((cs.drop (i * k)).take k) = some (d, p') := by
  obtain ⟨xs, m, _, hx, _, hlen, hel⟩ := DataW.trod_array ht h
  cases hx
  rw [List.getElem?_map] at hd
  obtain ⟨y, hy, rfl⟩ := Option.map_eq_some_iff.1 hd
  have hi := (List.getElem?_eq_some_iff.1 hy).1
  have := hel i (by omega)
  rw [hk, hy] at this
  exact ⟨m, y.2, this⟩
theorem fld_cells {t : TypeId} {fs : Array Field} {fuel : Nat} {cs : List Value} {ds : List (DataW H)} {p : List MemPlace} (ht : P.underlying t = some (.struct fs)) (h : DataW.trod enc P w base spare held fuel t cs = some (.agg ds, p)) (i : Nat) (f : Field) (d : DataW H) (hf : fs[i]? = some f) (hd : ds[i]? = some d) :
    ∃ m p', DataW.trod enc P w base spare held m f.type ((cs.drop f.offset).take (P.cellsOf f.type)) = some (d, p') := by
  obtain ⟨xs, m, _, hx, _, hlen, hel⟩ := DataW.trod_struct ht h
  cases hx
  rw [List.getElem?_map] at hd
  obtain ⟨y, hy, rfl⟩ := Option.map_eq_some_iff.1 hd
  have := hel i f hf
  rw [hy] at this
  exact ⟨m, y.2, this⟩
theorem int_cell {t : TypeId} {k : IntKind} {n : Int} {fuel : Nat} {cs : List Value} {p : List MemPlace} (ht : P.underlying t = some (.int k)) (h : DataW.trod enc P w base spare held fuel t cs = some (.lit (.int k n), p)) : cs = [.int k n] := by
  obtain ⟨m, h1, h2, _⟩ := DataW.trod_int ht h
  simp at h2
  rw [h1, h2.1]
theorem bool_cell {t : TypeId} {b : Bool} {fuel : Nat} {cs : List Value} {p : List MemPlace} (ht : P.underlying t = some .bool) (h : DataW.trod enc P w base spare held fuel t cs = some (.lit (.bool b), p)) : cs = [.bool b] := by
  obtain ⟨m, h1, h2⟩ := DataW.trod_bool ht h
  simp at h2
  rw [h1, h2.1]
theorem str_cell {t : TypeId} {s : List UInt8} {fuel : Nat} {cs : List Value} {p : List MemPlace} (ht : P.underlying t = some .string) (h : DataW.trod enc P w base spare held fuel t cs = some (.lit (.string s), p)) : cs = [.string ⟨s.toArray⟩] := by
  obtain ⟨m, h1, h2, _⟩ := DataW.trod_string ht h
  simp at h2
  rw [h1, h2.1]
theorem take1 {cs : List Value} {i : Nat} {v : Value} (h : (cs.drop i).take 1 = [v]) : cs[i]? = some v := by
  have := congrArg (fun l => l[0]?) h
  simpa [List.getElem?_take] using this
theorem take1of {cs : List Value} {i j k : Nat} {v : Value} (hj : j < k) (h : (((cs.drop i).take k).drop j).take 1 = [v]) : cs[i + j]? = some v := by
  have := take1 h
  rw [List.getElem?_take_of_lt hj, List.getElem?_drop] at this
  exact this
theorem take1at {cs : List Value} {i j k c o : Nat} {v : Value} (hj : j < k) (h : (((cs.drop i).take k).drop o).take c = [v]) (ho : o = j) (hc : c = 1) : cs[i + j]? = some v := by
  subst ho; subst hc; exact take1of hj h
end

def laid3 : List (String × DataW Unit) := [("rewind/shape.exprKinds", Rows.laid_rewind_shape_exprKinds), ("rewind/shape.stmtKinds", Rows.laid_rewind_shape_stmtKinds), ("rewind/shape.keywords", Rows.laid_rewind_shape_keywords)]
theorem gEk : Tryd.prog.globalNamed "rewind/shape.exprKinds" = some 1 := by kernel_rfl
theorem gSk : Tryd.prog.globalNamed "rewind/shape.stmtKinds" = some 2 := by kernel_rfl
theorem gKw : Tryd.prog.globalNamed "rewind/shape.keywords" = some 0 := by kernel_rfl
theorem tEk : (Tryd.prog.globals[1]?).map (·.type) = some 104 := by kernel_rfl
theorem tSk : (Tryd.prog.globals[2]?).map (·.type) = some 130 := by kernel_rfl
theorem tKw : (Tryd.prog.globals[0]?).map (·.type) = some 101 := by kernel_rfl
theorem cEk : Tryd.prog.cellsOf 103 = 5 := by kernel_rfl
theorem cSk : Tryd.prog.cellsOf 129 = 7 := by kernel_rfl
theorem cI64 : Tryd.prog.cellsOf 2 = 1 := by kernel_rfl
theorem cInt : Tryd.prog.cellsOf 3 = 1 := by kernel_rfl
theorem cBool : Tryd.prog.cellsOf 4 = 1 := by kernel_rfl
theorem cStr : Tryd.prog.cellsOf 9 = 1 := by kernel_rfl

theorem kw_of_laid {W : World} {rest : List (String × DataW Unit)} {ps : List MemPlace} (h : DataW.LaidVars Tryd.prog W (("rewind/shape.keywords", Rows.laid_rewind_shape_keywords) :: rest) ps) : GlobK W := by
  obtain ⟨g', t', cs, fuel, p, q, hg', ht', hvar, hd, _, _⟩ := h
  obtain rfl := Option.some.inj (gKw.symm.trans hg')
  obtain rfl := Option.some.inj (tKw.symm.trans ht')
  have c : ∀ (i : Nat) (s : List UInt8), (match (Rows.laid_rewind_shape_keywords : DataW Unit) with | .agg ds => ds | _ => [])[i]? = some (.lit (.string s)) → W.cell? ⟨0, i, none⟩ = some (.string ⟨s.toArray⟩) := fun i s hs => by
    obtain ⟨m, p', h1⟩ := arr_cells Tryd.underlying101 cStr hd i _ hs
    have h2 := str_cell Tryd.underlying9 h1
    rw [Nat.mul_one] at h2
    rw [World.var?_cell gKw hvar i, ← Array.getElem?_toList]
    exact take1 h2
  exact ⟨c 0 _ rfl, c 1 _ rfl, c 2 _ rfl, c 3 _ rfl, c 4 _ rfl, c 5 _ rfl, c 6 _ rfl, c 7 _ rfl, c 8 _ rfl, c 9 _ rfl, c 10 _ rfl, c 11 _ rfl, c 12 _ rfl, c 13 _ rfl, c 14 _ rfl⟩

def dsOf : DataW Unit → List (DataW Unit)
  | .agg ds => ds
  | _ => []
theorem ek_of_laid {W : World} {rest : List (String × DataW Unit)} {ps : List MemPlace} (h : DataW.LaidVars Tryd.prog W (("rewind/shape.exprKinds", Rows.laid_rewind_shape_exprKinds) :: rest) ps) : ∀ k r, ekRows[k]? = some r → EkCells W k r := by
  obtain ⟨g', t', cs, fuel, p, q, hg', ht', hvar, hd, _, _⟩ := h
  obtain rfl := Option.some.inj (gEk.symm.trans hg')
  obtain rfl := Option.some.inj (tEk.symm.trans ht')
  have c : ∀ (k : Nat) (n0 n1 n2 n3 n4 : Int), (dsOf Rows.laid_rewind_shape_exprKinds)[k]? = some (.agg [.lit (.int .i64 n0), .lit (.int .i64 n1), .lit (.int .i64 n2), .lit (.int .i64 n3), .lit (.int .i64 n4)]) →
      W.cell? ⟨1, k * 5, none⟩ = some (.int .i64 n0) ∧ W.cell? ⟨1, k * 5 + 1, none⟩ = some (.int .i64 n1) ∧ W.cell? ⟨1, k * 5 + 2, none⟩ = some (.int .i64 n2) ∧ W.cell? ⟨1, k * 5 + 3, none⟩ = some (.int .i64 n3) ∧ W.cell? ⟨1, k * 5 + 4, none⟩ = some (.int .i64 n4) := by
    intro k n0 n1 n2 n3 n4 hk
    obtain ⟨m, p', h1⟩ := arr_cells Tryd.underlying104 cEk hd k _ hk
    obtain ⟨_, _, g0⟩ := fld_cells Tryd.underlying103 h1 0 _ _ rfl rfl
    obtain ⟨_, _, g1⟩ := fld_cells Tryd.underlying103 h1 1 _ _ rfl rfl
    obtain ⟨_, _, g2⟩ := fld_cells Tryd.underlying103 h1 2 _ _ rfl rfl
    obtain ⟨_, _, g3⟩ := fld_cells Tryd.underlying103 h1 3 _ _ rfl rfl
    obtain ⟨_, _, g4⟩ := fld_cells Tryd.underlying103 h1 4 _ _ rfl rfl
    have e0 := int_cell Tryd.underlying3 g0
    have e1 := int_cell Tryd.underlying3 g1
    have e2 := int_cell Tryd.underlying3 g2
    have e3 := int_cell Tryd.underlying2 g3
    have e4 := int_cell Tryd.underlying3 g4
    refine ⟨?_, ?_, ?_, ?_, ?_⟩
    · rw [World.var?_cell gEk hvar, ← Array.getElem?_toList]; exact take1at (i := k * 5) (j := 0) (by decide) e0 rfl cInt
    · rw [World.var?_cell gEk hvar, ← Array.getElem?_toList]; exact take1at (i := k * 5) (j := 1) (by decide) e1 rfl cInt
    · rw [World.var?_cell gEk hvar, ← Array.getElem?_toList]; exact take1at (i := k * 5) (j := 2) (by decide) e2 rfl cInt
    · rw [World.var?_cell gEk hvar, ← Array.getElem?_toList]; exact take1at (i := k * 5) (j := 3) (by decide) e3 rfl cI64
    · rw [World.var?_cell gEk hvar, ← Array.getElem?_toList]; exact take1at (i := k * 5) (j := 4) (by decide) e4 rfl cInt
  intro k r hr
  rcases k with _ | _ | _ | _ | _ | _ | _ | _ | k
  · cases hr
    obtain ⟨a0, a1, a2, a3, a4⟩ := c 0 _ _ _ _ _ rfl
    exact ⟨a0, a1, a2, a3, a4⟩
  · cases hr
    obtain ⟨a0, a1, a2, a3, a4⟩ := c 1 _ _ _ _ _ rfl
    exact ⟨a0, a1, a2, a3, a4⟩
  · cases hr
    obtain ⟨a0, a1, a2, a3, a4⟩ := c 2 _ _ _ _ _ rfl
    exact ⟨a0, a1, a2, a3, a4⟩
  · cases hr
    obtain ⟨a0, a1, a2, a3, a4⟩ := c 3 _ _ _ _ _ rfl
    exact ⟨a0, a1, a2, a3, a4⟩
  · cases hr
    obtain ⟨a0, a1, a2, a3, a4⟩ := c 4 _ _ _ _ _ rfl
    exact ⟨a0, a1, a2, a3, a4⟩
  · cases hr
    obtain ⟨a0, a1, a2, a3, a4⟩ := c 5 _ _ _ _ _ rfl
    exact ⟨a0, a1, a2, a3, a4⟩
  · cases hr
    obtain ⟨a0, a1, a2, a3, a4⟩ := c 6 _ _ _ _ _ rfl
    exact ⟨a0, a1, a2, a3, a4⟩
  · cases hr
    obtain ⟨a0, a1, a2, a3, a4⟩ := c 7 _ _ _ _ _ rfl
    exact ⟨a0, a1, a2, a3, a4⟩
  · simp [ekRows] at hr

theorem sk_of_laid {W : World} {rest : List (String × DataW Unit)} {ps : List MemPlace} (h : DataW.LaidVars Tryd.prog W (("rewind/shape.stmtKinds", Rows.laid_rewind_shape_stmtKinds) :: rest) ps) : ∀ k r, skRows[k]? = some r → SkCells W k r := by
  obtain ⟨g', t', cs, fuel, p, q, hg', ht', hvar, hd, _, _⟩ := h
  obtain rfl := Option.some.inj (gSk.symm.trans hg')
  obtain rfl := Option.some.inj (tSk.symm.trans ht')
  have c : ∀ (k : Nat) (n0 n1 : Int) (n2 : Bool) (n3 n4 : Int) (n5 n6 : Bool), (dsOf Rows.laid_rewind_shape_stmtKinds)[k]? = some (.agg [.lit (.int .i64 n0), .lit (.int .i64 n1), .lit (.bool n2), .lit (.int .i64 n3), .lit (.int .i64 n4), .lit (.bool n5), .lit (.bool n6)]) →
      W.cell? ⟨2, k * 7, none⟩ = some (.int .i64 n0) ∧ W.cell? ⟨2, k * 7 + 1, none⟩ = some (.int .i64 n1) ∧ W.cell? ⟨2, k * 7 + 2, none⟩ = some (.bool n2) ∧ W.cell? ⟨2, k * 7 + 3, none⟩ = some (.int .i64 n3) ∧ W.cell? ⟨2, k * 7 + 4, none⟩ = some (.int .i64 n4) ∧ W.cell? ⟨2, k * 7 + 5, none⟩ = some (.bool n5) ∧ W.cell? ⟨2, k * 7 + 6, none⟩ = some (.bool n6) := by
    intro k n0 n1 n2 n3 n4 n5 n6 hk
    obtain ⟨m, p', h1⟩ := arr_cells Tryd.underlying130 cSk hd k _ hk
    obtain ⟨_, _, g0⟩ := fld_cells Tryd.underlying129 h1 0 _ _ rfl rfl
    have e0 := int_cell Tryd.underlying3 g0
    obtain ⟨_, _, g1⟩ := fld_cells Tryd.underlying129 h1 1 _ _ rfl rfl
    have e1 := int_cell Tryd.underlying3 g1
    obtain ⟨_, _, g2⟩ := fld_cells Tryd.underlying129 h1 2 _ _ rfl rfl
    have e2 := bool_cell Tryd.underlying4 g2
    obtain ⟨_, _, g3⟩ := fld_cells Tryd.underlying129 h1 3 _ _ rfl rfl
    have e3 := int_cell Tryd.underlying3 g3
    obtain ⟨_, _, g4⟩ := fld_cells Tryd.underlying129 h1 4 _ _ rfl rfl
    have e4 := int_cell Tryd.underlying3 g4
    obtain ⟨_, _, g5⟩ := fld_cells Tryd.underlying129 h1 5 _ _ rfl rfl
    have e5 := bool_cell Tryd.underlying4 g5
    obtain ⟨_, _, g6⟩ := fld_cells Tryd.underlying129 h1 6 _ _ rfl rfl
    have e6 := bool_cell Tryd.underlying4 g6
    refine ⟨?_, ?_, ?_, ?_, ?_, ?_, ?_⟩
    · rw [World.var?_cell gSk hvar, ← Array.getElem?_toList]; exact take1at (i := k * 7) (j := 0) (by decide) e0 rfl cInt
    · rw [World.var?_cell gSk hvar, ← Array.getElem?_toList]; exact take1at (i := k * 7) (j := 1) (by decide) e1 rfl cInt
    · rw [World.var?_cell gSk hvar, ← Array.getElem?_toList]; exact take1at (i := k * 7) (j := 2) (by decide) e2 rfl cBool
    · rw [World.var?_cell gSk hvar, ← Array.getElem?_toList]; exact take1at (i := k * 7) (j := 3) (by decide) e3 rfl cInt
    · rw [World.var?_cell gSk hvar, ← Array.getElem?_toList]; exact take1at (i := k * 7) (j := 4) (by decide) e4 rfl cInt
    · rw [World.var?_cell gSk hvar, ← Array.getElem?_toList]; exact take1at (i := k * 7) (j := 5) (by decide) e5 rfl cBool
    · rw [World.var?_cell gSk hvar, ← Array.getElem?_toList]; exact take1at (i := k * 7) (j := 6) (by decide) e6 rfl cBool
  intro k r hr
  rcases k with _ | _ | _ | _ | _ | _ | _ | _ | _ | _ | _ | k
  · cases hr
    obtain ⟨a0, a1, a2, a3, a4, a5, a6⟩ := c 0 _ _ _ _ _ _ _ rfl
    exact ⟨a0, a1, a2, a3, a4, a5, a6⟩
  · cases hr
    obtain ⟨a0, a1, a2, a3, a4, a5, a6⟩ := c 1 _ _ _ _ _ _ _ rfl
    exact ⟨a0, a1, a2, a3, a4, a5, a6⟩
  · cases hr
    obtain ⟨a0, a1, a2, a3, a4, a5, a6⟩ := c 2 _ _ _ _ _ _ _ rfl
    exact ⟨a0, a1, a2, a3, a4, a5, a6⟩
  · cases hr
    obtain ⟨a0, a1, a2, a3, a4, a5, a6⟩ := c 3 _ _ _ _ _ _ _ rfl
    exact ⟨a0, a1, a2, a3, a4, a5, a6⟩
  · cases hr
    obtain ⟨a0, a1, a2, a3, a4, a5, a6⟩ := c 4 _ _ _ _ _ _ _ rfl
    exact ⟨a0, a1, a2, a3, a4, a5, a6⟩
  · cases hr
    obtain ⟨a0, a1, a2, a3, a4, a5, a6⟩ := c 5 _ _ _ _ _ _ _ rfl
    exact ⟨a0, a1, a2, a3, a4, a5, a6⟩
  · cases hr
    obtain ⟨a0, a1, a2, a3, a4, a5, a6⟩ := c 6 _ _ _ _ _ _ _ rfl
    exact ⟨a0, a1, a2, a3, a4, a5, a6⟩
  · cases hr
    obtain ⟨a0, a1, a2, a3, a4, a5, a6⟩ := c 7 _ _ _ _ _ _ _ rfl
    exact ⟨a0, a1, a2, a3, a4, a5, a6⟩
  · cases hr
    obtain ⟨a0, a1, a2, a3, a4, a5, a6⟩ := c 8 _ _ _ _ _ _ _ rfl
    exact ⟨a0, a1, a2, a3, a4, a5, a6⟩
  · cases hr
    obtain ⟨a0, a1, a2, a3, a4, a5, a6⟩ := c 9 _ _ _ _ _ _ _ rfl
    exact ⟨a0, a1, a2, a3, a4, a5, a6⟩
  · cases hr
    obtain ⟨a0, a1, a2, a3, a4, a5, a6⟩ := c 10 _ _ _ _ _ _ _ rfl
    exact ⟨a0, a1, a2, a3, a4, a5, a6⟩
  · simp [skRows] at hr
theorem glob_of_laid {W : World} (h : laidMetH Tryd.prog laid3 W) : Glob W := by
  rw [MakeChecks.laidMetH_plain _ _ _ (by kernel_rfl)] at h
  obtain ⟨ps, h1, _⟩ := h
  have k1 := ek_of_laid h1
  obtain ⟨_, _, _, _, _, _, _, _, _, _, h2, _⟩ := h1
  have k2 := sk_of_laid h2
  obtain ⟨_, _, _, _, _, _, _, _, _, _, h3, _⟩ := h2
  refine ⟨kw_of_laid h3, k1, k2, ?_⟩
  exact World.block_lt_of_cell? _ _ (k2 0 _ rfl).c0
end Go.Proofs.YthiilnhiihfknaaDoor

namespace Go.Proofs.YthiilnhiihfknaaDoor
open Go Go.ChangeShapes Go.WideShapes Go.ChangeAt Go.RowKit Go.Joins
open Go.ChangeMaps (open_string shut_string)

theorem own : ownKnob Tryd.prog.godebug = none := by kernel_rfl
theorem laidOut : laidOutB Tryd.prog = true := by kernel_rfl

/-! ### A world for the witness: the variables as their initialisers lay them -/
def tabEk : Array Value := (ekRows.flatMap fun r => [.int .i64 r.name, .int .i64 r.first, .int .i64 r.last, .int .i64 r.most, .int .i64 (r.args : Int)]).toArray
def tabSk : Array Value := (skRows.flatMap fun r => [.int .i64 r.name, .int .i64 r.callee, .bool r.typed, .int .i64 (r.fewest : Int), .int .i64 (r.most : Int), .bool r.body, .bool r.other]).toArray
def tabKw : Array Value := (kws.map fun s => Value.string ⟨s.toArray⟩).toArray
def setTo (cs : Array Value) : Obj → Obj
  | .cells _ t frozen => .cells cs t frozen
  | o => o
noncomputable def laidWorld (os : Os) : World :=
  let w0 := World.holding Tryd.prog os ⟨#[], #[], []⟩
  { w0 with heap := ((w0.heap.modify 1 (setTo tabEk)).modify 2 (setTo tabSk)).modify 0 (setTo tabKw) }

section
variable {H : Type} {enc : TypeId × Value → H} {P : Program}
/-- THE ROW's END, where nothing that lay has turned, the arguments read by what lay. -/
theorem post_kept {f : Func} {s : ChangeSpec} {apart fresh handsOn : Bool} {W W' : World} {args : Array Value} {v : Value} {ds gs : List (DataW H)} {before pa pv : List MemPlace}
    (hW : DataW.Whole enc P f.params.toList s.vars apart W args.toList ds gs before)
    (hres : ∀ (b : Nat) (sp : Nat → Bool) (hd : Bool), DataW.TrodAll enc P W' b sp hd f.resultTypes.toList (v.resultList f.resultTypes.size) (s.fn H (ds ++ gs)).results [])
    (hargs : DataW.TrodAll enc P W' 0 (fun b => decide (b < W.heap.size)) true f.params.toList args.toList (s.fn H (ds ++ gs)).args pa)
    (hvars : DataW.TrodVars enc P W' (fun b => decide (b < W.heap.size)) s.vars (s.fn H (ds ++ gs)).vars pv)
    (hps : before = pa ++ pv) (hb : Below W.heap.size W W') : s.post enc P f apart fresh handsOn false W args v W' := by
  refine ⟨ds, gs, before, [], pa, pv, hW, hres _ _ _, hargs, hvars, World.keptBut_mono (fun p hp => ⟨hp, ?_⟩) (hb.frame (· ∈ before)), fun h => by cases h⟩
  rw [hps] at hp
  rcases List.mem_append.1 hp with h | h
  · exact Or.inr (Or.inl h)
  · exact Or.inr (Or.inr h)

variable {W : World} {r : Reach} {b0 base : Nat} {sp : Nat → Bool} {held : Bool} {v : Value} {d : DataW H} {p : List MemPlace}
set_option maxRecDepth 100000 in
theorem open_exprV (hv : Value.okWide Tryd.prog W r b0 24 v) (h : DataW.Trod enc Tryd.prog W base sp held 24 v d p) :
    ∃ (e : Ex) (va : Value), v = eV e va ∧ OkE e ∧ EIn W W.heap.size e.args va := by
  obtain ⟨cs, rfl, _⟩ := okWide_struct Tryd.underlying24 hv
  obtain ⟨fuel, hf⟩ := h
  obtain ⟨k, o, n, s, v', m, y, _, hcs, g0, g1, g2, g3, h4⟩ := open_expr1 hf
  obtain ⟨l, va, hv', hE⟩ := open_exprs m _ _ h4
  cases hv'
  refine ⟨⟨k, o, n, s, l⟩, v', ?_, ⟨g0, g1, g2, g3⟩, hE⟩
  obtain ⟨l'⟩ := cs
  simp [Value.cells] at hcs
  rw [hcs]
set_option maxRecDepth 100000 in
theorem open_stmtV (hv : Value.okWide Tryd.prog W r b0 46 v) (h : DataW.Trod enc Tryd.prog W base sp held 46 v d p) :
    ∃ (s : St) (va vb ve : Value), v = sV s va vb ve ∧ OkS s ∧ EIn W W.heap.size s.args va ∧ SIn W W.heap.size s.body vb ∧ SIn W W.heap.size s.els ve := by
  obtain ⟨cs, rfl, _⟩ := okWide_struct Tryd.underlying46 hv
  obtain ⟨fuel, hf⟩ := h
  obtain ⟨s, va, vb, ve, m, y5, y6, y7, _, hcs, g0, h5, h6, h7⟩ := open_stmt1 hf
  obtain ⟨l5, v5, hv5, hE5⟩ := open_exprs m _ _ h5
  obtain ⟨l6, v6, hv6, hE6⟩ := open_stmts m _ _ h6
  obtain ⟨l7, v7, hv7, hE7⟩ := open_stmts m _ _ h7
  cases hv5; cases hv6; cases hv7
  refine ⟨⟨s.kind, s.no, s.name, s.typ, s.callee, l5, l6, l7⟩, va, vb, ve, ?_, ⟨g0.kind, g0.no, g0.typ, g0.name, g0.callee⟩, hE5, hE6, hE7⟩
  obtain ⟨l'⟩ := cs
  simp [Value.cells] at hcs
  rw [hcs]
set_option maxRecDepth 100000 in
theorem open_progV (hv : Value.okWide Tryd.prog W r b0 35 v) (h : DataW.Trod enc Tryd.prog W base sp held 35 v d p) :
    ∃ (l : List Fn) (va : Value), v = .agg #[va] ∧ FIn W W.heap.size l va := by
  obtain ⟨cs, rfl, hsz⟩ := okWide_struct Tryd.underlying35 hv
  obtain ⟨fuel, hf⟩ := h
  obtain ⟨xs, m, _, _, hl, hlen, hfd⟩ := DataW.trod_struct Tryd.underlying35 hf
  have q1 : Tryd.prog.cellsOf 35 = 1 := by kernel_rfl
  have qF : Tryd.prog.cellsOf 33 = 1 := by kernel_rfl
  obtain ⟨l'⟩ := cs
  simp only [Value.cells] at hl hfd
  rw [q1] at hl
  match l', hl with
  | [a], _ =>
    have h0 := hfd 0 _ rfl
    match xs, hlen with
    | [y], _ =>
      have h0' : DataW.trod enc Tryd.prog W base sp held m 33 [a] = some y := by simpa [qF] using h0
      obtain ⟨l, va, hv', hF, _⟩ := open_funcs m _ _ h0'
      cases hv'
      exact ⟨l, a, rfl, hF⟩
set_option maxRecDepth 100000 in
theorem open_progC (hv : Value.okWide Tryd.prog W r b0 35 v) (h : DataW.Trod enc Tryd.prog W base sp held 35 v d p) :
    ∃ (l : List Fn) (A : Option Addr) (c : Nat), v = .agg #[.slice A l.length c] ∧ l.length ≤ c ∧ FIn W W.heap.size l (.slice A l.length c) := by
  obtain ⟨cs, rfl, hsz⟩ := okWide_struct Tryd.underlying35 hv
  obtain ⟨fuel, hf⟩ := h
  obtain ⟨xs, m, _, _, hl, hlen, hfd⟩ := DataW.trod_struct Tryd.underlying35 hf
  have q1 : Tryd.prog.cellsOf 35 = 1 := by kernel_rfl
  have qF : Tryd.prog.cellsOf 33 = 1 := by kernel_rfl
  obtain ⟨l'⟩ := cs
  simp only [Value.cells] at hl hfd
  rw [q1] at hl
  match l', hl with
  | [a], _ =>
    have h0 := hfd 0 _ rfl
    match xs, hlen with
    | [y], _ =>
      have h0' : DataW.trod enc Tryd.prog W base sp held m 33 [a] = some y := by simpa [qF] using h0
      obtain ⟨l, va, hv', hF, A, c, hs, hc⟩ := open_funcs m _ _ h0'
      cases hv'
      subst hs
      exact ⟨l, A, c, rfl, hc, hF⟩
end

/-- THE CARD's LAST QUESTIONS, for a law number f. -/
theorem plainOf {bl : Bool} {name : String} {f0 : FuncId} {fn0 : Func} (h1 : Tryd.prog.funcNamed name = some f0) (h2 : Tryd.prog.funcs[f0]? = some fn0) (hlooks : bl = Tryd.pinned.checked.prog.looks []) (hall : (fn0.params.all fun u => !Tryd.prog.wantsStandIn u) = true)
    (f : FuncId) (fn : Func) (hf : Tryd.pinned.checked.prog.funcNamed name = some f) (hfn : Tryd.pinned.checked.prog.funcs[f]? = some fn) :
    bl = Tryd.pinned.checked.prog.looks [] ∧ ∀ (j : Nat) t, fn.params[j]? = some t → Tryd.pinned.checked.prog.wantsStandIn t = false := by
  obtain rfl : f = f0 := (Option.some.inj (h1.symm.trans hf)).symm
  obtain rfl : fn = fn0 := (Option.some.inj (h2.symm.trans hfn)).symm
  refine ⟨hlooks, fun j t ht => ?_⟩
  have := Array.all_eq_true_iff_forall_mem.1 hall t (Array.mem_of_getElem? ht)
  show Tryd.prog.wantsStandIn t = false
  simpa using this
end Go.Proofs.YthiilnhiihfknaaDoor
