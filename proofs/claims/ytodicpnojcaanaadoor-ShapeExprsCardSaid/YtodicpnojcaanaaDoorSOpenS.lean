/-
  A datum read at []Stmt, []Param, []Func, opened: SR, PR, FR over the blocks of the heap.
-/
import Derived.Test.YtodicpnojcaanaaDoorSOpen
namespace Go.Proofs.YtodicpnojcaanaaDoor
open Go Go.RowKit Go.ChangeShapes Go.WideShapes Go.ChangeAt

section
variable {H : Type} {enc : TypeId × Value → H} {w : World} {base : Nat} {spare : Nat → Bool} {held : Bool}

theorem q3 : Tryd.prog.cellsOf 3 = 1 := by kernel_rfl
theorem q9 : Tryd.prog.cellsOf 9 = 1 := by kernel_rfl
theorem qE : Tryd.prog.cellsOf 22 = 1 := by kernel_rfl
theorem qS : Tryd.prog.cellsOf 41 = 1 := by kernel_rfl
theorem qP : Tryd.prog.cellsOf 40 = 1 := by kernel_rfl
theorem str_len {s : ByteArray} (h : s.size ≤ maxLen) : s.data.toList.length ≤ 9223372036854775807 := by
  have : s.data.size ≤ maxLen := h
  unfold maxLen at this
  simpa using this

theorem open_stmt1 {fuel : Nat} {cs : List Value} {x : DataW H × List MemPlace} (h : DataW.trod enc Tryd.prog w base spare held fuel 46 cs = some x) :
    ∃ (s : St) (va vb ve : Value) (m : Nat) (y5 y6 y7 : DataW H × List MemPlace), fuel = m + 1 ∧ cs = [.int .i64 s.kind, .int .i64 s.no, .string (B s.name), .int .i64 s.typ, .string (B s.callee), va, vb, ve] ∧ OkS s ∧
      DataW.trod enc Tryd.prog w base spare held m 22 [va] = some y5 ∧ DataW.trod enc Tryd.prog w base spare held m 41 [vb] = some y6 ∧ DataW.trod enc Tryd.prog w base spare held m 41 [ve] = some y7 := by
  obtain ⟨xs, m, hf, _, hl, hlen, hfd⟩ := DataW.trod_struct Tryd.underlying46 h
  obtain ⟨a, b, c, d, e, f, g, i, rfl⟩ := list8 (hl.trans (by kernel_rfl : Tryd.prog.cellsOf 46 = 8))
  obtain ⟨y0, y1, y2, y3, y4, y5, y6, y7, rfl⟩ := list8 hlen
  have f0 : DataW.trod enc Tryd.prog w base spare held m 3 [a] = some y0 := by simpa [q3] using hfd 0 _ rfl
  have f1 : DataW.trod enc Tryd.prog w base spare held m 3 [b] = some y1 := by simpa [q3] using hfd 1 _ rfl
  have f2 : DataW.trod enc Tryd.prog w base spare held m 9 [c] = some y2 := by simpa [q9] using hfd 2 _ rfl
  have f3 : DataW.trod enc Tryd.prog w base spare held m 3 [d] = some y3 := by simpa [q3] using hfd 3 _ rfl
  have f4 : DataW.trod enc Tryd.prog w base spare held m 9 [e] = some y4 := by simpa [q9] using hfd 4 _ rfl
  have f5 : DataW.trod enc Tryd.prog w base spare held m 22 [f] = some y5 := by simpa [qE] using hfd 5 _ rfl
  have f6 : DataW.trod enc Tryd.prog w base spare held m 41 [g] = some y6 := by simpa [qS] using hfd 6 _ rfl
  have f7 : DataW.trod enc Tryd.prog w base spare held m 41 [i] = some y7 := by simpa [qS] using hfd 7 _ rfl
  obtain ⟨k, hk, _, wk⟩ := DataW.trod_int Tryd.underlying3 f0
  obtain ⟨o, ho, _, wo⟩ := DataW.trod_int Tryd.underlying3 f1
  obtain ⟨s, hs, _, ws⟩ := DataW.trod_string Tryd.underlying9 f2
  obtain ⟨n, hn, _, wn⟩ := DataW.trod_int Tryd.underlying3 f3
  obtain ⟨z, hz, _, wz⟩ := DataW.trod_string Tryd.underlying9 f4
  cases hk; cases ho; cases hn; cases hs; cases hz
  exact ⟨⟨k, o, s.data.toList, n, z.data.toList, [], [], []⟩, f, g, i, m, y5, y6, y7, hf, rfl, ⟨okI_wf wk, okI_wf wo, okI_wf wn, str_len ws, str_len wz⟩, f5, f6, f7⟩

theorem open_stmts (fuel : Nat) : ∀ (cs : List Value) (x : DataW H × List MemPlace), DataW.trod enc Tryd.prog w base spare held fuel 41 cs = some x → ∃ l v, cs = [v] ∧ SIn w w.heap.size l v := by
  induction fuel using Nat.strongRecOn with
  | ind fuel ih =>
    intro cs x h
    rcases DataW.trod_slice Tryd.underlying41 h with ⟨rfl, _⟩ | ⟨a, len, cap, elems, rest, n, hf, rfl, _, hb, hl, hm, hlen, hel, _, _⟩
    · exact ⟨[], _, rfl, SR.nil _ _⟩
    · have q8 : Tryd.prog.cellsOf 46 = 8 := by kernel_rfl
      rw [q8] at hel
      by_cases hz : len = 0
      · subst hz
        exact ⟨[], _, rfl, SR.nil _ _⟩
      obtain ⟨b, off, spot⟩ := a
      have hspot : spot = none := by
        have h1 := hel 0 (by omega)
        rw [List.getElem?_eq_getElem (by omega)] at h1
        obtain ⟨cs', hc, ht⟩ := Option.bind_eq_some_iff.1 h1
        obtain ⟨s, va, vb, ve, m, y5, y6, y7, hm', rfl, _⟩ := open_stmt1 ht
        obtain ⟨_, _, hcell⟩ := World.cells?_some hc
        simpa [Addr.add] using World.cell?_spot ((hcell 0 (by decide)).trans rfl)
      subst hspot
      have each : ∀ i, ∃ (s : St) (va vb ve : Value), i < len → OkS s ∧ ER w (fun b => b < w.heap.size) s.args va ∧ SR w (fun b => b < w.heap.size) s.body vb ∧ SR w (fun b => b < w.heap.size) s.els ve ∧ b < w.heap.size ∧ SCells w b (off + i * 8) s va vb ve := by
        intro i
        by_cases hi : i < len
        · have h1 := hel i hi
          rw [List.getElem?_eq_getElem (by omega)] at h1
          obtain ⟨cs', hc, ht⟩ := Option.bind_eq_some_iff.1 h1
          obtain ⟨s, va, vb, ve, m, y5, y6, y7, hm', rfl, g0, h5, h6, h7⟩ := open_stmt1 ht
          obtain ⟨l5, v5, hv5, hE5⟩ := open_exprs m _ _ h5
          obtain ⟨l6, v6, hv6, hE6⟩ := ih m (by omega) _ _ h6
          obtain ⟨l7, v7, hv7, hE7⟩ := ih m (by omega) _ _ h7
          cases hv5; cases hv6; cases hv7
          obtain ⟨_, _, hcell⟩ := World.cells?_some hc
          have c0 := hcell 0 (by decide)
          have c1 := hcell 1 (by decide)
          have c2 := hcell 2 (by decide)
          have c3 := hcell 3 (by decide)
          have c4 := hcell 4 (by decide)
          have c5 := hcell 5 (by decide)
          have c6 := hcell 6 (by decide)
          have c7 := hcell 7 (by decide)
          rw [add_plain, add_plain] at c0 c1 c2 c3 c4 c5 c6 c7
          exact ⟨⟨s.kind, s.no, s.name, s.typ, s.callee, l5, l6, l7⟩, va, vb, ve, fun _ => ⟨⟨g0.kind, g0.no, g0.typ, g0.name, g0.callee⟩, hE5, hE6, hE7, World.block_lt_of_cell? _ _ c0, ⟨c0, c1, c2, c3, c4, c5, c6, c7⟩⟩⟩
        · exact ⟨⟨0, 0, [], 0, [], [], [], []⟩, .bool false, .bool false, .bool false, fun h => absurd h hi⟩
      obtain ⟨E, hE⟩ := Classical.axiomOfChoice each
      obtain ⟨Va, hE⟩ := Classical.axiomOfChoice hE
      obtain ⟨Vb, hE⟩ := Classical.axiomOfChoice hE
      obtain ⟨Ve, hV⟩ := Classical.axiomOfChoice hE
      unfold maxLen at hm
      have hlr : ((List.range len).map E).length = len := by simp
      have hget : ∀ (i : Nat) e, ((List.range len).map E)[i]? = some e → i < len ∧ e = E i := by
        intro i e hi
        have hi' := (List.getElem?_eq_some_iff.1 hi).1
        rw [hlr] at hi'
        refine ⟨hi', ?_⟩
        rw [List.getElem?_map, List.getElem?_range hi'] at hi
        exact (Option.some.inj hi).symm
      refine ⟨(List.range len).map E, _, rfl, ?_⟩
      have := SR.mk (w := w) (R := fun b => b < w.heap.size) ((List.range len).map E) (some ⟨b, off, none⟩) cap Va Vb Ve (by rw [hlr]; omega) (fun i e hi => ?_) (fun i e hi => ?_) (fun i e hi => ?_) (fun i e hi => ?_)
      · rwa [hlr] at this
      · obtain ⟨h1, rfl⟩ := hget i e hi
        obtain ⟨g1, _, _, _, g3, g4⟩ := hV i h1
        exact ⟨b, off, rfl, g3, g1, g4⟩
      · obtain ⟨h1, rfl⟩ := hget i e hi
        exact (hV i h1).2.1
      · obtain ⟨h1, rfl⟩ := hget i e hi
        exact (hV i h1).2.2.1
      · obtain ⟨h1, rfl⟩ := hget i e hi
        exact (hV i h1).2.2.2.1

theorem list2 {α : Type} {cs : List α} (h : cs.length = 2) : ∃ a b, cs = [a, b] := by
  match cs, h with
  | [a, b], _ => exact ⟨a, b, rfl⟩
theorem open_params (fuel : Nat) (cs : List Value) (x : DataW H × List MemPlace) (h : DataW.trod enc Tryd.prog w base spare held fuel 40 cs = some x) : ∃ l v, cs = [v] ∧ PIn w w.heap.size l v := by
  rcases DataW.trod_slice Tryd.underlying40 h with ⟨rfl, _⟩ | ⟨a, len, cap, elems, rest, n, hf, rfl, _, hb, hl, hm, hlen, hel, _, _⟩
  · exact ⟨[], _, rfl, PR.nil _ _⟩
  · have q8 : Tryd.prog.cellsOf 61 = 2 := by kernel_rfl
    rw [q8] at hel
    by_cases hz : len = 0
    · subst hz
      exact ⟨[], _, rfl, PR.nil _ _⟩
    have one : ∀ i, i < len → ∃ p : Pa, OkP p ∧ w.cell? ((a.add (i * 2)).add 0) = some (.string (B p.name)) ∧ w.cell? ((a.add (i * 2)).add 1) = some (.int .i64 p.typ) := by
      intro i hi
      have h1 := hel i hi
      rw [List.getElem?_eq_getElem (by omega)] at h1
      obtain ⟨cs', hc, ht⟩ := Option.bind_eq_some_iff.1 h1
      obtain ⟨xs, m, hf, _, hl, hlen', hfd⟩ := DataW.trod_struct Tryd.underlying61 ht
      obtain ⟨a', b', rfl⟩ := list2 (hl.trans q8)
      obtain ⟨y0, y1, rfl⟩ := list2 hlen'
      have f0 : DataW.trod enc Tryd.prog w base spare held m 9 [a'] = some y0 := by simpa [q9] using hfd 0 _ rfl
      have f1 : DataW.trod enc Tryd.prog w base spare held m 3 [b'] = some y1 := by simpa [q3] using hfd 1 _ rfl
      obtain ⟨s, hs, _, ws⟩ := DataW.trod_string Tryd.underlying9 f0
      obtain ⟨k, hk, _, wk⟩ := DataW.trod_int Tryd.underlying3 f1
      cases hk; cases hs
      obtain ⟨_, _, hcell⟩ := World.cells?_some hc
      exact ⟨⟨s.data.toList, k⟩, ⟨str_len ws, okI_wf wk⟩, hcell 0 (by decide), hcell 1 (by decide)⟩
    obtain ⟨b, off, spot⟩ := a
    have hspot : spot = none := by
      obtain ⟨p, _, c0, _⟩ := one 0 (by omega)
      simpa [Addr.add] using World.cell?_spot c0
    subst hspot
    have each : ∀ i, ∃ p : Pa, i < len → OkP p ∧ b < w.heap.size ∧ PCells w b (off + i * 2) p := by
      intro i
      by_cases hi : i < len
      · obtain ⟨p, g0, c0, c1⟩ := one i hi
        rw [add_plain, add_plain] at c0 c1
        exact ⟨p, fun _ => ⟨g0, World.block_lt_of_cell? _ _ c0, ⟨c0, c1⟩⟩⟩
      · exact ⟨⟨[], 0⟩, fun h => absurd h hi⟩
    obtain ⟨E, hV⟩ := Classical.axiomOfChoice each
    unfold maxLen at hm
    have hlr : ((List.range len).map E).length = len := by simp
    refine ⟨(List.range len).map E, _, rfl, ⟨some ⟨b, off, none⟩, cap, by rw [hlr], by rw [hlr]; omega, fun i p hi => ?_⟩⟩
    have hi' := (List.getElem?_eq_some_iff.1 hi).1
    rw [hlr] at hi'
    rw [List.getElem?_map, List.getElem?_range hi'] at hi
    cases hi
    obtain ⟨g1, g2, g3⟩ := hV i hi'
    exact ⟨b, off, rfl, g2, g1, g3⟩

theorem open_funcs (fuel : Nat) (cs : List Value) (x : DataW H × List MemPlace) (h : DataW.trod enc Tryd.prog w base spare held fuel 33 cs = some x) : ∃ l v, cs = [v] ∧ FIn w w.heap.size l v := by
  rcases DataW.trod_slice Tryd.underlying33 h with ⟨rfl, _⟩ | ⟨a, len, cap, elems, rest, n, hf, rfl, _, hb, hl, hm, hlen, hel, _, _⟩
  · exact ⟨[], _, rfl, FR.nil _ _⟩
  · have q8 : Tryd.prog.cellsOf 43 = 5 := by kernel_rfl
    rw [q8] at hel
    by_cases hz : len = 0
    · subst hz
      exact ⟨[], _, rfl, FR.nil _ _⟩
    have one : ∀ i, i < len → ∃ (f : Fn) (vp vb : Value), OkF f ∧ PIn w w.heap.size f.params vp ∧ SIn w w.heap.size f.body vb ∧ w.cell? ((a.add (i * 5)).add 0) = some (.string (B f.name)) ∧ w.cell? ((a.add (i * 5)).add 1) = some vp ∧ w.cell? ((a.add (i * 5)).add 2) = some (.int .i64 f.result) ∧ w.cell? ((a.add (i * 5)).add 3) = some vb ∧ w.cell? ((a.add (i * 5)).add 4) = some (.int .i64 f.count) := by
      intro i hi
      have h1 := hel i hi
      rw [List.getElem?_eq_getElem (by omega)] at h1
      obtain ⟨cs', hc, ht⟩ := Option.bind_eq_some_iff.1 h1
      obtain ⟨xs, m, hf, _, hl, hlen', hfd⟩ := DataW.trod_struct Tryd.underlying43 ht
      obtain ⟨a', b', c', d', e', rfl⟩ := list5 (hl.trans q8)
      obtain ⟨y0, y1, y2, y3, y4, rfl⟩ := list5 hlen'
      have f0 : DataW.trod enc Tryd.prog w base spare held m 9 [a'] = some y0 := by simpa [q9] using hfd 0 _ rfl
      have f1 : DataW.trod enc Tryd.prog w base spare held m 40 [b'] = some y1 := by simpa [qP] using hfd 1 _ rfl
      have f2 : DataW.trod enc Tryd.prog w base spare held m 3 [c'] = some y2 := by simpa [q3] using hfd 2 _ rfl
      have f3 : DataW.trod enc Tryd.prog w base spare held m 41 [d'] = some y3 := by simpa [qS] using hfd 3 _ rfl
      have f4 : DataW.trod enc Tryd.prog w base spare held m 3 [e'] = some y4 := by simpa [q3] using hfd 4 _ rfl
      obtain ⟨s, hs, _, ws⟩ := DataW.trod_string Tryd.underlying9 f0
      obtain ⟨k, hk, _, wk⟩ := DataW.trod_int Tryd.underlying3 f2
      obtain ⟨o, ho, _, wo⟩ := DataW.trod_int Tryd.underlying3 f4
      obtain ⟨lp, vp, hp, hP⟩ := open_params m _ _ f1
      obtain ⟨lb, vb, hb', hB⟩ := open_stmts m _ _ f3
      cases hk; cases hs; cases ho; cases hp; cases hb'
      obtain ⟨_, _, hcell⟩ := World.cells?_some hc
      exact ⟨⟨s.data.toList, lp, k, lb, o⟩, b', d', ⟨str_len ws, okI_wf wk, okI_wf wo⟩, hP, hB, hcell 0 (by decide), hcell 1 (by decide), hcell 2 (by decide), hcell 3 (by decide), hcell 4 (by decide)⟩
    obtain ⟨b, off, spot⟩ := a
    have hspot : spot = none := by
      obtain ⟨p, _, _, _, _, _, c0, _⟩ := one 0 (by omega)
      simpa [Addr.add] using World.cell?_spot c0
    subst hspot
    have each : ∀ i, ∃ (f : Fn) (vp vb : Value), i < len → OkF f ∧ b < w.heap.size ∧ FCells w b (off + i * 5) f vp vb ∧ PIn w w.heap.size f.params vp ∧ SIn w w.heap.size f.body vb := by
      intro i
      by_cases hi : i < len
      · obtain ⟨f, vp, vb, g0, hP, hB, c0, c1, c2, c3, c4⟩ := one i hi
        rw [add_plain, add_plain] at c0 c1 c2 c3 c4
        exact ⟨f, vp, vb, fun _ => ⟨g0, World.block_lt_of_cell? _ _ c0, ⟨c0, c1, c2, c3, c4⟩, hP, hB⟩⟩
      · exact ⟨⟨[], [], 0, [], 0⟩, .bool false, .bool false, fun h => absurd h hi⟩
    obtain ⟨E, hE⟩ := Classical.axiomOfChoice each
    obtain ⟨Vp, hE⟩ := Classical.axiomOfChoice hE
    obtain ⟨Vb, hV⟩ := Classical.axiomOfChoice hE
    unfold maxLen at hm
    have hlr : ((List.range len).map E).length = len := by simp
    refine ⟨(List.range len).map E, _, rfl, ⟨some ⟨b, off, none⟩, cap, by rw [hlr], by rw [hlr]; omega, fun i p hi => ?_⟩⟩
    have hi' := (List.getElem?_eq_some_iff.1 hi).1
    rw [hlr] at hi'
    rw [List.getElem?_map, List.getElem?_range hi'] at hi
    cases hi
    obtain ⟨g1, g2, g3, g4, g5⟩ := hV i hi'
    exact ⟨b, off, Vp i, Vb i, rfl, g2, g1, g3, g4, g5⟩
end
end Go.Proofs.YtodicpnojcaanaaDoor
