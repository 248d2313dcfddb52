/-
  A datum read at []Expr, opened: ER over the blocks of the heap.
-/
import Derived.Test.YtodicpnojcaanaaDoorSRows
import Derived.OpenShut
import Derived.ChangeArms
import Derived.DataReads
import Derived.Lib.SmallJoins
namespace Go.Proofs.YtodicpnojcaanaaDoor
open Go Go.RowKit Go.ChangeShapes Go.WideShapes Go.ChangeAt

theorem list5 {α : Type} {cs : List α} (h : cs.length = 5) : ∃ a b c d e, cs = [a, b, c, d, e] := by
  match cs, h with
  | [a, b, c, d, e], _ => exact ⟨a, b, c, d, e, rfl⟩
theorem list8 {α : Type} {cs : List α} (h : cs.length = 8) : ∃ a b c d e f g i, cs = [a, b, c, d, e, f, g, i] := by
  match cs, h with
  | [a, b, c, d, e, f, g, i], _ => exact ⟨a, b, c, d, e, f, g, i, rfl⟩
theorem okI_wf {n : Int} (h : (Lit.int .i64 n).wf = true) : okI n := by
  unfold okI
  simpa [Lit.wf, IntKind.min, IntKind.max, IntKind.signed, IntKind.bits] using h

section
variable {H : Type} {enc : TypeId × Value → H} {w : World} {base : Nat} {spare : Nat → Bool} {held : Bool}

theorem open_expr1 {fuel : Nat} {cs : List Value} {x : DataW H × List MemPlace} (h : DataW.trod enc Tryd.prog w base spare held fuel 24 cs = some x) :
    ∃ (k o n : Int) (s : Bytes) (v : Value) (m : Nat) (y : DataW H × List MemPlace), fuel = m + 1 ∧ cs = [.int .i64 k, .int .i64 o, .int .i64 n, .string (B s), v] ∧ okI k ∧ okI o ∧ okI n ∧ s.length ≤ 9223372036854775807 ∧ DataW.trod enc Tryd.prog w base spare held m 22 [v] = some y := by
  obtain ⟨xs, m, hf, _, hl, hlen, hfd⟩ := DataW.trod_struct Tryd.underlying24 h
  obtain ⟨a, b, c, d, e, rfl⟩ := list5 (hl.trans (by kernel_rfl : Tryd.prog.cellsOf 24 = 5))
  obtain ⟨y0, y1, y2, y3, y4, rfl⟩ := list5 hlen
  have q3 : Tryd.prog.cellsOf 3 = 1 := by kernel_rfl
  have q2 : Tryd.prog.cellsOf 2 = 1 := by kernel_rfl
  have q9 : Tryd.prog.cellsOf 9 = 1 := by kernel_rfl
  have qs : Tryd.prog.cellsOf 22 = 1 := by kernel_rfl
  have f0 : DataW.trod enc Tryd.prog w base spare held m 3 [a] = some y0 := by simpa [q3] using hfd 0 _ rfl
  have f1 : DataW.trod enc Tryd.prog w base spare held m 3 [b] = some y1 := by simpa [q3] using hfd 1 _ rfl
  have f2 : DataW.trod enc Tryd.prog w base spare held m 2 [c] = some y2 := by simpa [q2] using hfd 2 _ rfl
  have f3 : DataW.trod enc Tryd.prog w base spare held m 9 [d] = some y3 := by simpa [q9] using hfd 3 _ rfl
  have f4 : DataW.trod enc Tryd.prog w base spare held m 22 [e] = some y4 := by simpa [qs] using hfd 4 _ rfl
  obtain ⟨k, hk, _, wk⟩ := DataW.trod_int Tryd.underlying3 f0
  obtain ⟨o, ho, _, wo⟩ := DataW.trod_int Tryd.underlying3 f1
  obtain ⟨n, hn, _, wn⟩ := DataW.trod_int Tryd.underlying2 f2
  obtain ⟨s, hs, _, ws⟩ := DataW.trod_string Tryd.underlying9 f3
  cases hk; cases ho; cases hn; cases hs
  refine ⟨k, o, n, s.data.toList, e, m, y4, hf, rfl, okI_wf wk, okI_wf wo, okI_wf wn, ?_, f4⟩
  have : s.data.size ≤ maxLen := ws
  unfold maxLen at this
  simpa using this

theorem open_exprs (fuel : Nat) : ∀ (cs : List Value) (x : DataW H × List MemPlace), DataW.trod enc Tryd.prog w base spare held fuel 22 cs = some x → ∃ l v, cs = [v] ∧ EIn w w.heap.size l v := by
  induction fuel using Nat.strongRecOn with
  | ind fuel ih =>
    intro cs x h
    rcases DataW.trod_slice Tryd.underlying22 h with ⟨rfl, _⟩ | ⟨a, len, cap, elems, rest, n, hf, rfl, _, hb, hl, hm, hlen, hel, _, _⟩
    · exact ⟨[], _, rfl, ER.nil _ _⟩
    · have q5 : Tryd.prog.cellsOf 24 = 5 := by kernel_rfl
      rw [q5] at hel
      by_cases hz : len = 0
      · subst hz
        exact ⟨[], _, rfl, ER.nil _ _⟩
      obtain ⟨b, off, spot⟩ := a
      have hspot : spot = none := by
        have h1 := hel 0 (by omega)
        rw [List.getElem?_eq_getElem (by omega)] at h1
        obtain ⟨cs', hc, ht⟩ := Option.bind_eq_some_iff.1 h1
        obtain ⟨k, o, n', s, v, m, y, hm', rfl, _⟩ := open_expr1 ht
        obtain ⟨_, _, hcell⟩ := World.cells?_some hc
        simpa [Addr.add] using World.cell?_spot ((hcell 0 (by decide)).trans rfl)
      subst hspot
      have each : ∀ i, ∃ (e : Ex) (v : Value), i < len → OkE e ∧ ER w (fun b => b < w.heap.size) e.args v ∧ b < w.heap.size ∧ ECells w b (off + i * 5) e v := by
        intro i
        by_cases hi : i < len
        · have h1 := hel i hi
          rw [List.getElem?_eq_getElem (by omega)] at h1
          obtain ⟨cs', hc, ht⟩ := Option.bind_eq_some_iff.1 h1
          obtain ⟨k, o, n', s, v, m, y, hm', rfl, g0, g1, g2, g3, h2⟩ := open_expr1 ht
          obtain ⟨l', v', hv, hE⟩ := ih m (by omega) _ _ h2
          cases hv
          obtain ⟨_, _, hcell⟩ := World.cells?_some hc
          have c0 := hcell 0 (by decide)
          have c1 := hcell 1 (by decide)
          have c2 := hcell 2 (by decide)
          have c3 := hcell 3 (by decide)
          have c4 := hcell 4 (by decide)
          rw [add_plain, add_plain] at c0 c1 c2 c3 c4
          exact ⟨⟨k, o, n', s, l'⟩, v, fun _ => ⟨⟨g0, g1, g2, g3⟩, hE, World.block_lt_of_cell? _ _ c0, ⟨c0, c1, c2, c3, c4⟩⟩⟩
        · exact ⟨⟨0, 0, 0, [], []⟩, .bool false, fun h => absurd h hi⟩
      obtain ⟨E, hE⟩ := Classical.axiomOfChoice each
      obtain ⟨V, hV⟩ := Classical.axiomOfChoice hE
      unfold maxLen at hm
      have hlr : ((List.range len).map E).length = len := by simp
      have hget : ∀ (i : Nat) e, ((List.range len).map E)[i]? = some e → i < len ∧ e = E i := by
        intro i e hi
        have hi' := (List.getElem?_eq_some_iff.1 hi).1
        rw [hlr] at hi'
        refine ⟨hi', ?_⟩
        rw [List.getElem?_map, List.getElem?_range hi'] at hi
        exact (Option.some.inj hi).symm
      refine ⟨(List.range len).map E, _, rfl, ?_⟩
      have := ER.mk (w := w) (R := fun b => b < w.heap.size) ((List.range len).map E) (some ⟨b, off, none⟩) cap V (by rw [hlr]; omega) (fun i e hi => ?_) (fun i e hi => ?_)
      · rwa [hlr] at this
      · obtain ⟨h1, rfl⟩ := hget i e hi
        obtain ⟨g1, _, g3, g4⟩ := hV i h1
        exact ⟨b, off, rfl, g3, g1, g4⟩
      · obtain ⟨h1, rfl⟩ := hget i e hi
        exact (hV i h1).2.1
end
end Go.Proofs.YtodicpnojcaanaaDoor
