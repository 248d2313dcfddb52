/-
  Rows of one's own that grow side by side: tokens, words, numbers.
-/
import Derived.Test.YtipepljmfgjbpaaGreatDoorEWk
import Derived.Test.YtipepljmfgjbpaaGreatDoorSGrow
import Derived.Test.YtipepljmfgjbpaaGreatDoorLSkip
import Derived.Maps.AppendAt
namespace Go.Proofs.YtipepljmfgjbpaaGreatDoor.E5
open Go Go.RowKit Go.Proofs.YtipepljmfgjbpaaGreatDoor

/-- Tokens in a row, with the third cell as it may be. -/
def kA : S3.RowKind (Int × List UInt8) Int := ⟨33, 3, fun t a => [.int .i64 t.1, .string (B t.2), .int .i64 a], fun _ _ t _ => t.2.length ≤ 9223372036854775807, fun _ _ => rfl, fun h _ _ => h⟩
theorem tokL_grA {base : Nat} {v : Value} {wr : World} {l : TL} (h : S3.GrI kA base l v wr) (hl : l.length ≤ 1000000) : TokL wr wr.heap.size v l := by
  rcases h.done with ⟨rfl, A, c, rfl⟩ | ⟨g, cap, V, rfl, hg, hr, hp⟩
  · exact ⟨A, c, rfl, by decide, fun i t hi => by simp at hi⟩
  · refine ⟨some ⟨g, 0, none⟩, cap, rfl, by omega, fun i t hi => ⟨hp i t hi, g, 0, V i, rfl, hr.lt, ?_⟩⟩
    have hrow : (kA.rows l V)[i]? = some [.int .i64 t.1, .string (B t.2), .int .i64 (V i)] := by simp [S3.RowKind.rows, List.getElem?_mapIdx, hi, kA]
    have c := fun j u hj => hr.cell (j := j) (u := u) hrow hj
    rw [Nat.zero_add]
    exact ⟨c 0 _ rfl, c 1 _ rfl, c 2 _ rfl⟩
/-- A slice of tokens, as rows. -/
theorem tok_rows {w : World} {M : Nat} {l : TL} {A : Option Addr} {n c : Nat} (h : TokL w M (.slice A n c) l) : n = l.length ∧ ∃ V : Nat → Int, (∀ (i : Nat) t, l[i]? = some t → t.2.length ≤ 9223372036854775807) ∧
    (0 < l.length → ∃ b o, A = some ⟨b, o, none⟩ ∧ b < M ∧ ∀ j u, (kA.rows l V).flatten[j]? = some u → w.cell? ⟨b, o + j, none⟩ = some u) := by
  obtain ⟨A', c', h1, h2, h3⟩ := h
  cases h1
  refine ⟨rfl, ?_⟩
  have each : ∀ i, ∃ a : Int, ∀ t, l[i]? = some t → ∃ b o, A = some ⟨b, o, none⟩ ∧ b < M ∧ w.cell? ⟨b, o + i * 3, none⟩ = some (.int .i64 t.1) ∧ w.cell? ⟨b, o + i * 3 + 1, none⟩ = some (.string (B t.2)) ∧ w.cell? ⟨b, o + i * 3 + 2, none⟩ = some (.int .i64 a) := by
    intro i
    cases hi : l[i]? with
    | none => exact ⟨0, fun t ht => by cases ht⟩
    | some t =>
      obtain ⟨_, b, o, a, e1, e2, e3, e4, e5⟩ := h3 i t hi
      exact ⟨a, fun t' ht => by cases ht; exact ⟨b, o, e1, e2, e3, e4, e5⟩⟩
  obtain ⟨V, hV⟩ := Classical.axiomOfChoice each
  refine ⟨V, fun i t hi => (h3 i t hi).1, fun h0 => ?_⟩
  obtain ⟨b, o, e1, e2, _⟩ := hV 0 l[0] (List.getElem?_eq_getElem h0)
  refine ⟨b, o, e1, e2, S3.rows_read (sz := 3) (by omega) (S3.RowKind.rows_sz l V) fun i r j u hi hj => ?_⟩
  have hil : i < l.length := by
    have := (List.getElem?_eq_some_iff.1 hi).1
    rwa [S3.RowKind.rows_len] at this
  have hr : r = [.int .i64 (l[i]).1, .string (B (l[i]).2), .int .i64 (V i)] := by
    simp [S3.RowKind.rows, List.getElem?_mapIdx, List.getElem?_eq_getElem hil, kA] at hi
    exact hi.symm
  subst hr
  obtain ⟨b', o', f1, _, f3, f4, f5⟩ := hV i l[i] (List.getElem?_eq_getElem hil)
  rw [e1] at f1
  cases f1
  match j, hj with
  | 0, hj => cases hj; exact f3
  | 1, hj => cases hj; exact f4
  | 2, hj => cases hj; exact f5
  | j + 3, hj => simp at hj
theorem kA_one (l : TL) (V : Nat → Int) : ∀ u ∈ (kA.rows l V).flatten, u.oneCell' = true := S3.flat_one fun r hr u hu => by
  obtain ⟨i, hi, rfl⟩ := List.getElem_of_mem hr
  simp [S3.RowKind.rows, kA] at hu
  rcases hu with rfl | rfl | rfl <;> rfl
theorem gr_cap {base : Nat} {l : TL} {v : Value} {w : World} (h : S3.GrI kA base l v w) : ∃ A c, v = .slice A l.length c ∧ l.length ≤ c ∧ c ≤ 9223372036854775807 := by
  obtain ⟨V, ⟨_, h1⟩, _⟩ := h
  rcases h1 with ⟨rfl, h0⟩ | ⟨g, cap, cur, rfl, _, _, h2, h3, _⟩
  · exact ⟨none, 0, by rw [h0], by omega, by omega⟩
  · exact ⟨_, cap, rfl, h2, by unfold maxLen at h3; omega⟩
theorem add_plain (b o j : Nat) : (Addr.add ⟨b, o, none⟩ j) = ⟨b, o + j, none⟩ := by unfold Addr.add; split <;> simp_all
theorem append_empty {P : Program} (W : World) (t ty e : TypeId) (i : TypeInfo) (ht : P.underlying t = some (.slice e)) (hi : P.info? e = some i) (B A : Option Addr) (n cap c : Nat) (h : n ≤ cap) :
    (Builtin.append_ #[t, t] ty #[.slice B n cap, .slice A 0 c]).run P W = .ok (.slice B n cap) W := by
  cases A <;> cases B <;> simp [Builtin.append_, run_underlying ht, sizeOf, typeInfo, hi, Builtin.lenOf, Builtin.firstCells, storeCells, loadCells, loadCellsFrom, Result.andThen, h]
/-- Tokens put behind a row of one's own. -/
theorem cat_run {base M : Nat} {l m : TL} {v : Value} {wr : World} {A : Option Addr} {n c : Nat} (h : S3.GrI kA base l v wr) (hm : TokL wr M (.slice A n c) m) (hl : l.length + m.length ≤ 1000000) (ty : TypeId) :
    ∃ v' w', (Builtin.append_ #[23, 23] ty #[v, .slice A n c]).run Tryz.prog wr = .ok v' w' ∧ S3.GrI kA base (l ++ m) v' w' ∧ Below base wr w' := by
  obtain ⟨i0, hi, hq0, hq1, hq2⟩ := L4.info_partsT L4.infoTok
  obtain ⟨rfl, V, ht, hr⟩ := tok_rows hm
  have hbase : base ≤ wr.heap.size := by obtain ⟨_, _, _, h3⟩ := h; exact h3
  rcases Nat.eq_zero_or_pos m.length with h0 | h0
  · have hm0 := List.eq_nil_of_length_eq_zero h0
    subst hm0
    obtain ⟨B1, c1, rfl, e1, _⟩ := gr_cap h
    exact ⟨_, _, append_empty wr _ ty _ i0 Tryz.underlying23 hi B1 A _ _ _ e1, by rw [List.append_nil]; exact h, Below.refl _ _⟩
  · obtain ⟨b, o, rfl, _, hc⟩ := hr h0
    obtain ⟨xs, hown, hst⟩ := h.cat (m := m) (U := V) (fun q a hq => ht q a hq)
    have hfl : (kA.rows m V).flatten.length = m.length * 3 := by rw [S3.flat_len (S3.RowKind.rows_sz m V), S3.RowKind.rows_len]; rfl
    obtain ⟨v', w', hrun, h2, h3, _, h5⟩ := run_append_own_at (P := Tryz.prog) wr base 23 ty 33 i0 _ 3 32 Tryz.underlying23 hi hq0 hq1 hq2 rfl (by decide) v l.length xs hown ⟨b, o, none⟩ m.length c (kA.rows m V).flatten hfl (fun j u hu => by rw [show (Addr.add ⟨b, o, none⟩ j) = ⟨b, o + j, none⟩ by unfold Addr.add; split <;> simp_all]; exact hc j u hu) (kA_one m V) (by unfold maxLen; omega) (by omega) hbase
    obtain ⟨g, cap, rfl⟩ : ∃ g cap, v' = .slice (some ⟨g, 0, none⟩) (l.length + m.length) cap := by
      rcases h2.2 with ⟨_, h9⟩ | ⟨g, cap, cur, e, _⟩
      · omega
      · exact ⟨g, cap, e⟩
    obtain ⟨hG, hb⟩ := hst g cap w' h2 h3 (by
      rcases h5 with h5 | h5
      · exact .inl h5.symm
      · simp [Value.ownBlock] at h5; exact .inr h5)
    exact ⟨_, w', hrun, hG, hb⟩
theorem own_keep {w w' : World} {base n : Nat} {T : TypeId} {v : Value} {xs : List Value} (h : w.ownsRow base T 1 v n xs) (hk : ∀ g, v.ownBlock = some g → w'.heap[g]? = w.heap[g]?) : w'.ownsRow base T 1 v n xs := by
  obtain ⟨h0, h | ⟨g, cap, cur, rfl, h5, hg, h1⟩⟩ := h
  · exact ⟨h0, .inl h⟩
  · exact ⟨h0, .inr ⟨g, cap, cur, rfl, h5, (hk g rfl).trans hg, h1⟩⟩
/-- A row of tokens stays, if its block does. -/
theorem gr_side {base : Nat} {l : TL} {v : Value} {w w' : World} (h : S3.GrI kA base l v w) (hs : w.heap.size ≤ w'.heap.size) (hk : ∀ g, v.ownBlock = some g → w'.heap[g]? = w.heap[g]?) : S3.GrI kA base l v w' := by
  obtain ⟨V, ⟨h0, h1⟩, h2, h3⟩ := h
  refine ⟨V, ⟨h0, ?_⟩, fun j a hj => h2 j a hj, by omega⟩
  rcases h1 with h1 | ⟨g, cap, cur, rfl, h5, hg, h6⟩
  · exact .inl h1
  · exact .inr ⟨g, cap, cur, rfl, h5, (hk g rfl).trans hg, h6⟩
/-- Tokens, one at least, put behind a row of one's own: what else stays. -/
theorem cat_grown {base M : Nat} {l m : TL} {v : Value} {wr : World} {A : Option Addr} {n c : Nat} (h : S3.GrI kA base l v wr) (hm : TokL wr M (.slice A n c) m) (hl : l.length + m.length ≤ 1000000) (h0 : 0 < m.length) (ty : TypeId) :
    ∃ g cap w', (Builtin.append_ #[23, 23] ty #[v, .slice A n c]).run Tryz.prog wr = .ok (.slice (some ⟨g, 0, none⟩) (l.length + m.length) cap) w' ∧ S3.GrI kA base (l ++ m) (.slice (some ⟨g, 0, none⟩) (l.length + m.length) cap) w' ∧ wr.grownBy w' v.ownBlock ∧ (v.ownBlock = some g ∨ g = wr.heap.size) ∧ Below base wr w' := by
  obtain ⟨i0, hi, hq0, hq1, hq2⟩ := L4.info_partsT L4.infoTok
  obtain ⟨rfl, V, ht, hr⟩ := tok_rows hm
  have hbase : base ≤ wr.heap.size := by obtain ⟨_, _, _, h3⟩ := h; exact h3
  obtain ⟨b, o, rfl, _, hc⟩ := hr h0
  obtain ⟨xs, hown, hst⟩ := h.cat (m := m) (U := V) (fun q a hq => ht q a hq)
  have hfl : (kA.rows m V).flatten.length = m.length * 3 := by rw [S3.flat_len (S3.RowKind.rows_sz m V), S3.RowKind.rows_len]; rfl
  obtain ⟨v', w', hrun, h2, h3, _, h5⟩ := run_append_own_at (P := Tryz.prog) wr base 23 ty 33 i0 _ 3 32 Tryz.underlying23 hi hq0 hq1 hq2 rfl (by decide) v l.length xs hown ⟨b, o, none⟩ m.length c (kA.rows m V).flatten hfl (fun j u hu => by rw [show (Addr.add ⟨b, o, none⟩ j) = ⟨b, o + j, none⟩ by unfold Addr.add; split <;> simp_all]; exact hc j u hu) (kA_one m V) (by unfold maxLen; omega) (by omega) hbase
  obtain ⟨g, cap, rfl⟩ : ∃ g cap, v' = .slice (some ⟨g, 0, none⟩) (l.length + m.length) cap := by
    rcases h2.2 with ⟨_, h9⟩ | ⟨g, cap, cur, e, _⟩
    · omega
    · exact ⟨g, cap, e⟩
  have h6 : v.ownBlock = some g ∨ g = wr.heap.size := by
    rcases h5 with h5 | h5
    · exact .inl h5.symm
    · simp [Value.ownBlock] at h5; exact .inr h5
  obtain ⟨hG, hb⟩ := hst g cap w' h2 h3 h6
  exact ⟨g, cap, w', hrun, hG, h3, h6, hb⟩
end Go.Proofs.YtipepljmfgjbpaaGreatDoor.E5
