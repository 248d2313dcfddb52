/-
  What a slice of pieces reads as; the end of a row whose arguments are read by what lay.
-/
import Derived.Test.YtkbmominplkdkaaDoorLBack
import Derived.Test.YtkbmominplkdkaaDoorLFrame
namespace Go.Proofs.YtkbmominplkdkaaDoor
open Go Go.RowKit Go.ChangeShapes Go.WideShapes Go.ChangeAt Go.Joins

theorem laidOut : laidOutB Tryd.prog = true := by kernel_rfl
section
variable {H : Type} {enc : TypeId × Value → H} {P : Program}
/-- THE ROW's END, where nothing that lay has turned, the arguments read by what lay. -/
theorem post_kept {f : Func} {s : ChangeSpec} {apart fresh handsOn : Bool} {W W' : World} {args : Array Value} {v : Value} {ds gs : List (DataW H)} {before pa pv : List MemPlace}
    (hW : DataW.Whole enc P f.params.toList s.vars apart W args.toList ds gs before)
    (hres : ∀ (b : Nat) (sp : Nat → Bool) (hd : Bool), DataW.TrodAll enc P W' b sp hd f.resultTypes.toList (v.resultList f.resultTypes.size) (s.fn H (ds ++ gs)).results [])
    (hargs : DataW.TrodAll enc P W' 0 (fun b => decide (b < W.heap.size)) true f.params.toList args.toList (s.fn H (ds ++ gs)).args pa)
    (hvars : DataW.TrodVars enc P W' (fun b => decide (b < W.heap.size)) s.vars (s.fn H (ds ++ gs)).vars pv)
    (hps : before = pa ++ pv) (hb : Below W.heap.size W W') : s.post enc P f apart fresh handsOn false W args v W' := by
  refine ⟨ds, gs, before, [], pa, pv, hW, hres _ _ _, hargs, hvars, World.keptBut_mono (fun p hp => ⟨hp, ?_⟩) (hb.frame (· ∈ before)), fun h => by cases h⟩
  rw [hps] at hp
  rcases List.mem_append.1 hp with h | h
  · exact Or.inr (Or.inl h)
  · exact Or.inr (Or.inr h)

end
theorem list4 {α : Type} {cs : List α} (h : cs.length = 4) : ∃ a b c d, cs = [a, b, c, d] := by
  match cs, h with
  | [a, b, c, d], _ => exact ⟨a, b, c, d, rfl⟩
theorem add_pl (b o i : Nat) : (⟨b, o, none⟩ : Addr).add i = ⟨b, o + i, none⟩ := by unfold Addr.add; split <;> simp_all
theorem str_len {s : ByteArray} (h : s.size ≤ maxLen) : s.data.toList.length ≤ 9223372036854775807 := by
  unfold maxLen at h
  rw [Array.length_toList]
  exact h
section
variable {H : Type} {enc : TypeId × Value → H} {w : World} {base : Nat} {spare : Nat → Bool} {held : Bool}
theorem qU8 : Tryd.prog.cellsOf 5 = 1 := by kernel_rfl
theorem qU64 : Tryd.prog.cellsOf 37 = 1 := by kernel_rfl
set_option maxRecDepth 100000 in
theorem open_pcs (fuel : Nat) (cs : List Value) (x : DataW H × List MemPlace) (h : DataW.trod enc Tryd.prog w base spare held fuel 36 cs = some x) : ∃ l v, cs = [v] ∧ Pcs w v l ∧ ∀ p ∈ l, OkPc p := by
  rcases DataW.trod_slice Tryd.underlying36 h with ⟨rfl, _⟩ | ⟨a, len, cap, elems, rest, n, hf, rfl, _, hb, hl, hm, hlen, hel, _, _⟩
  · exact ⟨[], _, rfl, .inl ⟨rfl, _, _, rfl⟩, by simp⟩
  · have q8 : Tryd.prog.cellsOf 39 = 4 := by kernel_rfl
    rw [q8] at hel
    by_cases hz : len = 0
    · subst hz
      exact ⟨[], _, rfl, .inl ⟨rfl, _, _, rfl⟩, by simp⟩
    have one : ∀ i, i < len → ∃ p : Pc, OkPc p ∧ w.cell? ((a.add (i * 4)).add 0) = some (.int .u8 (p.k : Int)) ∧ w.cell? ((a.add (i * 4)).add 1) = some (.int .u8 (p.n : Int)) ∧ w.cell? ((a.add (i * 4)).add 2) = some (.int .u8 (p.g : Int)) ∧ w.cell? ((a.add (i * 4)).add 3) = some (.int .u64 (p.b : Int)) := by
      intro i hi
      have h1 := hel i hi
      rw [List.getElem?_eq_getElem (by omega)] at h1
      obtain ⟨cs', hc, ht⟩ := Option.bind_eq_some_iff.1 h1
      obtain ⟨xs, m, hf, _, hl, hlen', hfd⟩ := DataW.trod_struct Tryd.underlying39 ht
      obtain ⟨a', b', c', d', rfl⟩ := list4 (hl.trans q8)
      obtain ⟨y0, y1, y2, y3, rfl⟩ := list4 hlen'
      have f0 : DataW.trod enc Tryd.prog w base spare held m 5 [a'] = some y0 := by simpa [qU8] using hfd 0 _ rfl
      have f1 : DataW.trod enc Tryd.prog w base spare held m 5 [b'] = some y1 := by simpa [qU8] using hfd 1 _ rfl
      have f2 : DataW.trod enc Tryd.prog w base spare held m 5 [c'] = some y2 := by simpa [qU8] using hfd 2 _ rfl
      have f3 : DataW.trod enc Tryd.prog w base spare held m 37 [d'] = some y3 := by simpa [qU64] using hfd 3 _ rfl
      obtain ⟨k0, e0, _, w0⟩ := DataW.trod_int Tryd.underlying5 f0
      obtain ⟨k1, e1, _, w1⟩ := DataW.trod_int Tryd.underlying5 f1
      obtain ⟨k2, e2, _, w2⟩ := DataW.trod_int Tryd.underlying5 f2
      obtain ⟨k3, e3, _, w3⟩ := DataW.trod_int Tryd.underlying37 f3
      cases e0; cases e1; cases e2; cases e3
      have b0 : 0 ≤ k0 ∧ k0 ≤ 255 := by simpa [Lit.wf, IntKind.min, IntKind.max, IntKind.signed, IntKind.bits] using w0
      have b1 : 0 ≤ k1 ∧ k1 ≤ 255 := by simpa [Lit.wf, IntKind.min, IntKind.max, IntKind.signed, IntKind.bits] using w1
      have b2 : 0 ≤ k2 ∧ k2 ≤ 255 := by simpa [Lit.wf, IntKind.min, IntKind.max, IntKind.signed, IntKind.bits] using w2
      have b3 : 0 ≤ k3 ∧ k3 ≤ 18446744073709551615 := by simpa [Lit.wf, IntKind.min, IntKind.max, IntKind.signed, IntKind.bits] using w3
      obtain ⟨n0, rfl⟩ := Int.eq_ofNat_of_zero_le b0.1
      obtain ⟨n1, rfl⟩ := Int.eq_ofNat_of_zero_le b1.1
      obtain ⟨n2, rfl⟩ := Int.eq_ofNat_of_zero_le b2.1
      obtain ⟨n3, rfl⟩ := Int.eq_ofNat_of_zero_le b3.1
      obtain ⟨_, _, hcell⟩ := World.cells?_some hc
      exact ⟨⟨n0, n1, n2, n3⟩, ⟨by simp only; omega, by simp only; omega, by simp only; omega, by simp only; omega⟩, hcell 0 (by decide), hcell 1 (by decide), hcell 2 (by decide), hcell 3 (by decide)⟩
    obtain ⟨b, off, spot⟩ := a
    have hspot : spot = none := by
      obtain ⟨p, _, c0, _⟩ := one 0 (by omega)
      simpa [Addr.add] using World.cell?_spot c0
    subst hspot
    have each : ∀ i, ∃ p : Pc, i < len → OkPc p ∧ b < w.heap.size ∧ PcC w b (off + i * 4) p := by
      intro i
      by_cases hi : i < len
      · obtain ⟨p, g0, c0, c1, c2, c3⟩ := one i hi
        rw [add_pl, add_pl] at c0 c1 c2 c3
        exact ⟨p, fun _ => ⟨g0, World.block_lt_of_cell? _ _ c0, c0, c1, c2, c3⟩⟩
      · exact ⟨⟨0, 0, 0, 0⟩, fun h => absurd h hi⟩
    obtain ⟨E, hV⟩ := Classical.axiomOfChoice each
    have hlr : ((List.range len).map E).length = len := by simp
    refine ⟨(List.range len).map E, _, rfl, .inr ⟨?_, b, off, cap, by rw [hlr], (hV 0 (by omega)).2.1, fun i p hi => ?_⟩, fun p hp => ?_⟩
    · intro h; rw [h] at hlr; simp at hlr; exact hz hlr.symm
    · have hi' := (List.getElem?_eq_some_iff.1 hi).1
      rw [hlr] at hi'
      rw [List.getElem?_map, List.getElem?_range hi'] at hi
      cases hi
      exact (hV i hi').2.2
    · obtain ⟨i, hi, rfl⟩ := List.mem_map.1 hp
      exact (hV i (List.mem_range.1 hi)).1
theorem open_pieces {r : Reach} {b0 : Nat} {v : Value} {d : DataW H} {p : List MemPlace} (hv : Value.okWide Tryd.prog w r b0 36 v) (h : DataW.Trod enc Tryd.prog w base spare held 36 v d p) :
    ∃ l, Pcs w v l ∧ ∀ p ∈ l, OkPc p := by
  obtain ⟨a, len, cap, rfl⟩ := okWide_slice Tryd.underlying36 hv
  obtain ⟨fuel, hf⟩ := h
  obtain ⟨l, v', hv', h1, h2⟩ := open_pcs fuel _ _ hf
  cases hv'
  exact ⟨l, h1, h2⟩
end
end Go.Proofs.YtkbmominplkdkaaDoor
