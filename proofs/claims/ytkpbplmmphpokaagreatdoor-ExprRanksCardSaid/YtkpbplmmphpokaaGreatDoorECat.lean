/-
  Tokens that are put behind others: what append gives; slices.Grow and slices.Concat of tokens: contracts.
-/
import Derived.Test.YtkpbplmmphpokaaGreatDoorETk
import Derived.Lib.AppendZerosOnto
import Derived.Lib.AppendZeros
import Derived.Maps.AppendAt
namespace Go.Proofs.YtkpbplmmphpokaaGreatDoor.E5
open Go Go.RowKit Go.Proofs.YtkpbplmmphpokaaGreatDoor

theorem append_empty {P : Program} (W : World) (t ty e : TypeId) (i : TypeInfo) (ht : P.underlying t = some (.slice e)) (hi : P.info? e = some i) (B A : Option Addr) (n cap c : Nat) (h : n ≤ cap) :
    (Builtin.append_ #[t, t] ty #[.slice B n cap, .slice A 0 c]).run P W = .ok (.slice B n cap) W := by
  cases A <;> cases B <;> simp [Builtin.append_, run_underlying ht, sizeOf, typeInfo, hi, Builtin.lenOf, Builtin.firstCells, storeCells, loadCells, loadCellsFrom, Result.andThen, h]
/-- Tokens put behind a row of one's own. -/
theorem cat_run {base M : Nat} {l m : TL} {v : Value} {wr : World} {A : Option Addr} {n c : Nat} (h : S3.GrI kA base l v wr) (hm : TokL wr M (.slice A n c) m) (hl : l.length + m.length ≤ 1000000) (ty : TypeId) :
    ∃ v' w', (Builtin.append_ #[22, 22] ty #[v, .slice A n c]).run Tryz.prog wr = .ok v' w' ∧ S3.GrI kA base (l ++ m) v' w' ∧ Below base wr w' := by
  obtain ⟨i0, hi, hq0, hq1, hq2⟩ := L4.info_partsT L4.infoTok
  obtain ⟨rfl, V, ht, hr⟩ := tok_rows hm
  have hbase : base ≤ wr.heap.size := by obtain ⟨_, _, _, h3⟩ := h; exact h3
  rcases Nat.eq_zero_or_pos m.length with h0 | h0
  · have hm0 := List.eq_nil_of_length_eq_zero h0
    subst hm0
    obtain ⟨B1, c1, rfl, e1, _⟩ := gr_cap h
    exact ⟨_, _, append_empty wr _ ty _ i0 Tryz.underlying22 hi B1 A _ _ _ e1, by rw [List.append_nil]; exact h, Below.refl _ _⟩
  · obtain ⟨b, o, rfl, _, hc⟩ := hr h0
    obtain ⟨xs, hown, hst⟩ := h.cat (m := m) (U := V) (fun q a hq => ht q a hq)
    have hfl : (kA.rows m V).flatten.length = m.length * 3 := by rw [S3.flat_len (S3.RowKind.rows_sz m V), S3.RowKind.rows_len]; rfl
    obtain ⟨v', w', hrun, h2, h3, _, h5⟩ := run_append_own_at (P := Tryz.prog) wr base 22 ty 26 i0 _ 3 32 Tryz.underlying22 hi hq0 hq1 hq2 rfl (by decide) v l.length xs hown ⟨b, o, none⟩ m.length c (kA.rows m V).flatten hfl (fun j u hu => by rw [show (Addr.add ⟨b, o, none⟩ j) = ⟨b, o + j, none⟩ by unfold Addr.add; split <;> simp_all]; exact hc j u hu) (kA_one m V) (by unfold maxLen; omega) (by omega) hbase
    obtain ⟨g, cap, rfl⟩ : ∃ g cap, v' = .slice (some ⟨g, 0, none⟩) (l.length + m.length) cap := by
      rcases h2.2 with ⟨_, h9⟩ | ⟨g, cap, cur, e, _⟩
      · omega
      · exact ⟨g, cap, e⟩
    obtain ⟨hG, hb⟩ := hst g cap w' h2 h3 (by
      rcases h5 with h5 | h5
      · exact .inl h5.symm
      · simp [Value.ownBlock] at h5; exact .inr h5)
    exact ⟨_, w', hrun, hG, hb⟩
/-- Grow of the nil slice. -/
theorem grow_run (w : World) (n : Nat) (hn : 0 < n) (hn2 : n ≤ 1000000) (ty : TypeId) : ∃ G, (Builtin.append_ #[22, 3] ty #[.slice none 0 0, .int .i64 (n : Int)]).run Tryz.prog w = .ok (.slice (some ⟨w.heap.size, 0, none⟩) n G) (w.drew.alloc (.cells ((#[] : Array Value) ++ Builtin.zeroCells #[.int .i64 0, .string ⟨#[]⟩, .int .i64 0] n ++ Builtin.zeroCells #[.int .i64 0, .string ⟨#[]⟩, .int .i64 0] (G - n)) 26)) ∧ n ≤ G ∧ G ≤ 9223372036854775807 := by
  obtain ⟨i0, hi, hq0, hq1, hq2⟩ := L4.info_partsT L4.infoTok
  have h := Lib.run_append_grow_zeros w 22 3 ty 26 i0 _ .i64 .i64 Tryz.underlying22 Tryz.underlying3 hi hq0 none 0 0 [] (run_firstCells_none w.drew i0.size 0 0 0) n hn (by omega) (by omega) (by omega) (by rw [hq2]; omega)
    (by have := growslice_fits (need := 0 + n) (old := 0) (bytes := i0.bytes) (by omega) (by rw [hq2]; omega); exact this)
  rw [Nat.zero_add] at h
  refine ⟨grownCap w n 0 26, ?_, grownCap_ge w _ _ _, ?_⟩
  · exact h
  · have := grownCap_le_maxLen w n 0 26 (by unfold maxLen; omega)
    unfold maxLen at this
    exact this
set_option maxRecDepth 100000 in
set_option maxHeartbeats 2000000 in
theorem grow_nil (n : Nat) (hn : n ≤ 1000000) (w : World) : Calls Tryz.prog 84 #[.slice none 0 0, .int .i64 (n : Int)] w fun e w' => ∃ v', e = .returned v' ∧ S3.GrI kA w.heap.size [] v' w' ∧ Below w.heap.size w w' := by
  have h0 : ¬ ((n : Int) < 0) := by omega
  by_cases hz : n = 0
  · subst hz
    go_enter Tryz.func84, Tryz.ntmps84
    go_wp2_with fail
    go_ret
    exact ⟨_, rfl, S3.GrI.start kA (Nat.le_refl _) (fun _ => 0), Below.refl _ _⟩
  · have h4 : 0 < (n : Int) := by omega
    have hR := fun ty => grow_run w n (by omega) hn ty
    have hG : ∀ G, n ≤ G → G ≤ 9223372036854775807 → S3.GrI kA w.heap.size [] (.slice (some ⟨w.heap.size, 0, none⟩) 0 G) (w.drew.alloc (.cells ((#[] : Array Value) ++ Builtin.zeroCells #[.int .i64 0, .string ⟨#[]⟩, .int .i64 0] n ++ Builtin.zeroCells #[.int .i64 0, .string ⟨#[]⟩, .int .i64 0] (G - n)) 26)) := fun G h1 h2 => by
      refine ⟨fun _ => 0, ⟨by simp [S3.RowKind.rows, kA], .inr ⟨w.heap.size, G, _, rfl, Nat.le_refl _, heap_alloc_new w.drew _, Nat.zero_le _, by unfold maxLen; omega, ?_, by simp [S3.RowKind.rows]⟩⟩, fun j a hj => by simp at hj, by rw [S3.sz1]; exact Nat.le_succ _⟩
      simp only [Array.size_append, size_zeroCells]
      show 0 + n * 3 + (G - n) * 3 = G * 3
      omega
    have hB : ∀ o, Below w.heap.size w (w.drew.alloc o) := fun o => (bal_dr w).trans (S3.bal w.drew o)
    obtain ⟨G, hrun, g1, g2⟩ := hR 22
    have HG := Lib.hid (hG G g1 g2)
    have HB := Lib.hid (hB (.cells ((#[] : Array Value) ++ Builtin.zeroCells #[.int .i64 0, .string ⟨#[]⟩, .int .i64 0] n ++ Builtin.zeroCells #[.int .i64 0, .string ⟨#[]⟩, .int .i64 0] (G - n)) 26))
    clear hR hG hB
    generalize w.drew.alloc (.cells ((#[] : Array Value) ++ Builtin.zeroCells #[.int .i64 0, .string ⟨#[]⟩, .int .i64 0] n ++ Builtin.zeroCells #[.int .i64 0, .string ⟨#[]⟩, .int .i64 0] (G - n)) 26) = w1 at *
    go_enter Tryz.func84, Tryz.ntmps84
    go_wp2_with (at_builtin; refine Lib.wpList_append_run _ rfl _ _ _ _ rfl _ _ rfl rfl _ _ hrun ?_)
    all_goals (go_ret; exact ⟨_, rfl, HG.out, HB.out⟩)
end Go.Proofs.YtkpbplmmphpokaaGreatDoor.E5
