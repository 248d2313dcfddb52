/-
  place.Of and place.Count: over the iterator's contract.
-/
import Derived.Test.YthjpcfohpbbacaaDoorFind
namespace Go.Proofs.YthjpcfohpbbacaaDoor
open Go Go.RowKit Go.Shelf
attribute [local go_sem] Oper.semAt_some

/-- The first row that ends at or behind an offset. -/
def ofRow (s : Bytes) (k : Int) : Option Row := (rowsOf s).find? fun r => decide (k ≤ r.start + r.text.length)
def placeOf (s : Bytes) (k : Int) : Option (Int × Int) := if k < 0 then none else (ofRow s k).map fun r => ((r.num : Int), k - r.start + 1)
def encP : Option (Int × Int) → Value
  | some p => .agg #[.int .i64 p.1, .int .i64 p.2]
  | none => .agg #[.int .i64 0, .int .i64 0]
/-- The code of an error that stands beside a missing result. -/
def encE (code : Int) {α : Type} : Option α → Value
  | some _ => .int .i64 0
  | none => .int .i64 code

set_option maxRecDepth 100000 in
theorem end_of_of {x : Option (Int × Int)} {w W : World} {n0 D : Nat} {t : Array Value} {v0 v1 ev : Value} (hn0 : w.heap.size = n0) (hD : n0 + 2 < D) (hK : W.heap[D]? = some (.deferred (some []))) (hb : Below n0 w W)
    (ht4 : t[4]? = some (.pointer (some ⟨n0 + 1, 0, none⟩))) (ht5 : t[5]? = some (.pointer (some ⟨n0 + 1 + 1, 0, none⟩)))
    (q0 : Cell W ⟨n0 + 1, 0, none⟩ v0) (q1 : Cell W ⟨n0 + 1, 1, none⟩ v1) (q3 : Cell W ⟨n0 + 1 + 1, 0, none⟩ ev) (hv : encP x = .agg #[v0, v1]) (hev : encE 3 x = ev) :
    bodyPostM Fence.wide 5 Tryd.prog Tryd.f12 (fun e w' => e = Ending.returned (.tuple #[encP x, encE 3 x]) ∧ Below w.heap.size w w') Exit.ret
      { tmps := t, defers := [{ target := .collected D, args := #[] }] } W := by
  refine ⟨by simp, .inl ⟨_, _, rfl, run_takeDeferred hK, ?_⟩⟩
  obtain ⟨q0, _⟩ := putObj_cell (o' := .deferred none) q0 (show n0 + 1 ≠ D by omega)
  obtain ⟨q1, _⟩ := putObj_cell (o' := .deferred none) q1 (show n0 + 1 ≠ D by omega)
  obtain ⟨q3, _⟩ := putObj_cell (o' := .deferred none) q3 (show n0 + 1 + 1 ≠ D by omega)
  have hb2 : Below n0 w (W.putObj D (.deferred none)) := hb.grown (grownBy_putObj' W D _) (by have := hb.size; omega) (fun k e => by cases e; omega)
  subst hn0
  rw [hv, hev]
  refine ⟨_, ?_, rfl, hb2⟩
  simp [results, Tryd.results12, go_sem, q0, q1, q3, ht4, ht5]

set_option maxRecDepth 100000 in
set_option maxHeartbeats 4000000 in
theorem of_neg (s : ByteArray) (k : Int) (hk : k < 0) (w : World) :
    Calls Tryd.prog 12 #[.string s, .int .i64 k] w fun e w' => e = .returned (.tuple #[encP (placeOf s.data.toList k), encE 3 (placeOf s.data.toList k)]) ∧ Below w.heap.size w w' := by
  rw [placeOf, if_pos hk]
  go_enter Tryd.func12, Tryd.ntmps12
  go_wp2_with fail
  refine bodyPost_ret (v := .tuple #[encP none, encE 3 (none : Option (Int × Int))]) ?_ rfl ⟨rfl, (((Below.refl _ w).alloc (Nat.le_refl _) _).alloc (by simp) _).alloc (by simp; omega) _⟩
  simp [results, Tryd.results12, go_sem, encP, encE]

set_option maxRecDepth 100000 in
set_option maxHeartbeats 4000000 in
theorem of_in (s : ByteArray) (hs : s.size ≤ 9223372036854775800) (k : Int) (hk0 : 0 ≤ k) (hk1 : k ≤ 9223372036854775807) (w : World) :
    CallsIn Fence.wide 5 Tryd.prog 12 #[.string s, .int .i64 k] w fun e w' => e = .returned (.tuple #[encP (placeOf s.data.toList k), encE 3 (placeOf s.data.toList k)]) ∧ Below w.heap.size w w' := by
  have hkd : decide (k < 0) = false := by simp; omega
  refine callsIn_of_wp_marks Tryd.func12 rfl trivial ?_ rfl
  simp only [Tryd.ntmps12, List.size_toArray, List.length_cons, List.length_nil, Nat.reduceAdd, Nat.reduceSub, Array.replicate_succ, Array.replicate_zero, List.push_toArray, List.append_toArray, List.nil_append, List.cons_append]
  gi_wp2_with (refine ⟨trivial, ?_⟩; gi_at_call 31; refine (rows_calls _ _ _).mono ?_; rintro e w' ⟨rfl, rfl⟩)
  have hb0 : Below w.heap.size w ((((w.alloc (.cells #[.int .i64 k] 3)).alloc (.cells #[.int .i64 0, .int .i64 0] 24)).alloc (.cells #[.int .i64 0] 25)).alloc (.cells #[.string s] 9)) :=
    ((((Below.refl _ w).alloc (Nat.le_refl _) _).alloc (by simp) _).alloc (by simp; omega) _).alloc (by simp; omega) _
  have k0 := (((Cell.new w #[.int .i64 k] 3 0 _ rfl).alloc (.cells #[.int .i64 0, .int .i64 0] 24)).alloc (.cells #[.int .i64 0] 25)).alloc (.cells #[.string s] 9)
  have k1 := ((Cell.new (w.alloc (.cells #[.int .i64 k] 3)) #[.int .i64 0, .int .i64 0] 24 0 _ rfl).alloc (.cells #[.int .i64 0] 25)).alloc (.cells #[.string s] 9)
  have k2 := ((Cell.new (w.alloc (.cells #[.int .i64 k] 3)) #[.int .i64 0, .int .i64 0] 24 1 _ rfl).alloc (.cells #[.int .i64 0] 25)).alloc (.cells #[.string s] 9)
  have k4 := (Cell.new ((w.alloc (.cells #[.int .i64 k] 3)).alloc (.cells #[.int .i64 0, .int .i64 0] 24)) #[.int .i64 0] 25 0 _ rfl).alloc (.cells #[.string s] 9)
  have k5 := Cell.new (((w.alloc (.cells #[.int .i64 k] 3)).alloc (.cells #[.int .i64 0, .int .i64 0] 24)).alloc (.cells #[.int .i64 0] 25)) #[.string s] 9 0 _ rfl
  have hsz : ((((w.alloc (.cells #[.int .i64 k] 3)).alloc (.cells #[.int .i64 0, .int .i64 0] 24)).alloc (.cells #[.int .i64 0] 25)).alloc (.cells #[.string s] 9)).heap.size = w.heap.size + 4 := by simp
  simp only [World.size_alloc] at k1 k2 k4 k5
  generalize (((w.alloc (.cells #[.int .i64 k] 3)).alloc (.cells #[.int .i64 0, .int .i64 0] 24)).alloc (.cells #[.int .i64 0] 25)).alloc (.cells #[.string s] 9) = w4 at hb0 k0 k1 k2 k4 k5 hsz ⊢
  generalize hn0 : w.heap.size = n0 at *
  refine wpIn_rangeFunc_ownR rfl (by omega) (gf := 48) (lb := #[.pointer (some ⟨n0 + 3, 0, none⟩)]) rfl trivial (enters_of Tryd.func48 (by kernel_rfl) rfl)
    (rows_stops 4 s hs (n0 + 3) (n0 + 3) w4 (Nat.le_refl _) (by omega) k5.1) (Below.refl _ _) (fun _ => rfl)
    (fun pre W => (∀ r ∈ pre, (r.start : Int) + r.text.length < k) ∧ Cell W ⟨n0, 0, none⟩ (.int .i64 k) ∧ Cell W ⟨n0 + 1, 0, none⟩ (.int .i64 0) ∧ Cell W ⟨n0 + 1, 1, none⟩ (.int .i64 0) ∧ Cell W ⟨n0 + 1 + 1, 0, none⟩ (.int .i64 0) ∧ Below n0 w W)
    (fun c pre W => c = .ret ∧ ∃ (p : List Row) (r : Row), pre = p ++ [r] ∧ (∀ r ∈ p, (r.start : Int) + r.text.length < k) ∧ k ≤ (r.start : Int) + r.text.length ∧ Cell W ⟨n0 + 1, 0, none⟩ (.int .i64 r.num) ∧ Cell W ⟨n0 + 1, 1, none⟩ (.int .i64 (k - r.start + 1)) ∧ Cell W ⟨n0 + 1 + 1, 0, none⟩ (.int .i64 0) ∧ Below n0 w W)
    (fun s A B row hs hg hr => ⟨hs.1, hs.2.1.in hg hr (by simp; omega), hs.2.2.1.in hg hr (by simp; omega), hs.2.2.2.1.in hg hr (by simp; omega), hs.2.2.2.2.1.in hg hr (by simp; omega),
      hs.2.2.2.2.2.grown hg (by have := hs.2.2.2.2.2.size; omega) (fun q e => by have := hr q e; omega)⟩)
    (fun c s A B row hs hg hr => by
      obtain ⟨hc, p, r, h1, h2, h3, h4, h5, h6, h7⟩ := hs
      exact ⟨hc, p, r, h1, h2, h3, h4.in hg hr (by simp; omega), h5.in hg hr (by simp; omega), h6.in hg hr (by simp; omega), h7.grown hg (by have := h7.size; omega) (fun q e => by have := hr q e; omega)⟩)
    ⟨fun r h => (by cases h), k0, k1, k2, k4, hb0⟩
    (fun x a' W => ∃ bx, n0 + 4 + 2 + 1 ≤ bx ∧ RowAt W bx x ∧ a' = { tmps := #[.string s, .int .i64 k, undef, .pointer (some ⟨n0, 0, none⟩), .pointer (some ⟨n0 + 1, 0, none⟩), .pointer (some ⟨n0 + 1 + 1, 0, none⟩), .pointer (some ⟨bx, 0, none⟩), .int .i64 k, .bool false, undef, .string s, .func (.func 48) #[] #[.pointer (some ⟨n0 + 3, 0, none⟩)], encRow x, undef, undef, undef, undef, undef, undef, undef, undef, undef, undef, undef, undef, undef, undef, undef, undef, undef], defers := [] })
    (fun x a' _ A B row hs hg hr => by
      obtain ⟨bx, h1, h2, h3⟩ := hs
      exact ⟨bx, h1, h2.in hg hr (by omega), h3⟩)
    ?assign ?body ?done ?stop
  case assign =>
    rintro l pre x W Kt ⟨h1, h2, h3, h4, h6, h7⟩ hW hK
    dsimp only [encRow]
    gi_wp2_with fail
    exact hK _ _ ((KeepsIn.refl _ _ _).alloc _) ⟨h1, h2.alloc _, h3.alloc _, h4.alloc _, h6.alloc _, h7.alloc (by omega) _⟩
      ⟨W.heap.size, by omega, ⟨Cell.new _ _ _ 0 _ rfl, Cell.new _ _ _ 1 _ rfl, Cell.new _ _ _ 2 _ rfl⟩, rfl⟩
  case body =>
    rintro l pre x a' W ⟨h1, ⟨h2, g2⟩, ⟨h3, g3⟩, ⟨h4, g4⟩, ⟨h6, g6⟩, h7⟩ ⟨bx, hbx, ⟨⟨r0, q0⟩, ⟨r1, q1⟩, ⟨r2, q2⟩⟩, rfl⟩ hlen hsp hW
    have hend : (x.start : Int) + x.text.length ≤ s.size := by
      obtain ⟨q, hq⟩ := hsp
      have := rowsOf_end (s := s.data.toList) (k := pre.length) (r := x) (by rw [← hq]; simp)
      rw [← Lib.size_eq] at this
      omega
    have H1 := Lib.hid h1
    clear hsp h1 k0 k1 k2 k4 k5
    by_cases he : k ≤ (x.start : Int) + x.text.length
    · gi_wp2_with fail
      have s1 := h7.setCell (p := ⟨n0 + 1, 0, none⟩) (show n0 ≤ n0 + 1 by omega) (.int .i64 x.num)
      have s2 := s1.setCell (p := ⟨n0 + 1, 1, none⟩) (show n0 ≤ n0 + 1 by omega) (.int .i64 (k - x.start + 1))
      have s4 := s2.setCell (p := ⟨n0 + 1 + 1, 0, none⟩) (show n0 ≤ n0 + 1 + 1 by omega) (.int .i64 0)
      refine ⟨(((KeepsIn.refl _ _ _).setCell ?_ _).setCell ?_ _).setCell ?_ _, rfl, pre, x, rfl, H1.out, he, ?_, ?_, ?_, s4⟩
      · left; show n0 + 1 < _; omega
      · left; show n0 + 1 < _; omega
      · left; show n0 + 1 + 1 < _; omega
      · exact ((Cell.set ⟨h3, g3⟩ _).setOther (by intro h; cases h) _).setOther (by intro h; cases h) _
      · exact ((Cell.setOther ⟨h4, g4⟩ (by intro h; cases h) _).set _).setOther (by intro h; cases h) _
      · exact ((Cell.setOther ⟨h6, g6⟩ (by intro h; cases h) _).setOther (by intro h; cases h) _).set _
    · gi_wp2_with fail
      refine ⟨KeepsIn.refl _ _ _, ?_, ⟨h2, g2⟩, ⟨h3, g3⟩, ⟨h4, g4⟩, ⟨h6, g6⟩, h7⟩
      intro r hr
      rcases List.mem_append.1 hr with hr | hr
      · exact H1.out r hr
      · obtain rfl := List.mem_singleton.1 hr
        omega
  case done =>
    rintro xs W rfl ⟨h1, ⟨h2, g2⟩, ⟨h3, g3⟩, ⟨h4, g4⟩, ⟨h6, g6⟩, h7⟩ hD
    have H1 := Lib.hid h1
    clear h1 k0 k1 k2 k4 k5
    gi_wp2_with fail
    have hnone : placeOf s.data.toList k = none := by
      unfold placeOf ofRow
      rw [if_neg (by omega), List.find?_eq_none.2]; rfl
      intro r hr
      have := H1.out r hr
      simp; omega
    rw [hnone]
    have s1 := h7.setCell (p := ⟨n0 + 1, 0, none⟩) (show n0 ≤ n0 + 1 by omega) (.int .i64 0)
    have s2 := s1.setCell (p := ⟨n0 + 1, 1, none⟩) (show n0 ≤ n0 + 1 by omega) (.int .i64 0)
    have s4 := s2.setCell (p := ⟨n0 + 1 + 1, 0, none⟩) (show n0 ≤ n0 + 1 + 1 by omega) (.int .i64 3)
    have q0 := ((Cell.set ⟨h3, g3⟩ (.int .i64 0)).setOther (q := ⟨n0 + 1, 1, none⟩) (by intro h; cases h) (.int .i64 0)).setOther (q := ⟨n0 + 1 + 1, 0, none⟩) (by intro h; cases h) (.int .i64 3)
    have q1 := ((Cell.setOther ⟨h4, g4⟩ (q := ⟨n0 + 1, 0, none⟩) (by intro h; cases h) (.int .i64 0)).set (.int .i64 0)).setOther (q := ⟨n0 + 1 + 1, 0, none⟩) (by intro h; cases h) (.int .i64 3)
    have q3 := ((Cell.setOther ⟨h6, g6⟩ (q := ⟨n0 + 1, 0, none⟩) (by intro h; cases h) (.int .i64 0)).setOther (q := ⟨n0 + 1, 1, none⟩) (by intro h; cases h) (.int .i64 0)).set (.int .i64 3)
    have hD' : (((W.setCell ⟨n0 + 1, 0, none⟩ (.int .i64 0)).setCell ⟨n0 + 1, 1, none⟩ (.int .i64 0)).setCell ⟨n0 + 1 + 1, 0, none⟩ (.int .i64 3)).heap[w4.heap.size]? = some (.deferred (some [])) := by
      rw [Below.heap_setCell _ _ _ _ (show w4.heap.size ≠ n0 + 1 + 1 by omega), Below.heap_setCell _ _ _ _ (show w4.heap.size ≠ n0 + 1 by omega), Below.heap_setCell _ _ _ _ (show w4.heap.size ≠ n0 + 1 by omega)]
      exact hD
    exact end_of_of (x := none) hn0 (by omega) hD' s4 rfl rfl q0 q1 q3 rfl rfl
  case stop =>
    rintro c pre W hpre ⟨rfl, p, r, h1, h2, h3, h4, h5, h6, h7⟩ hD
    have H1 := Lib.hid h1
    have H2 := Lib.hid h2
    have H3 := Lib.hid h3
    clear h1 h2 h3 k0 k1 k2 k4 k5
    gi_wp2_with fail
    have hsome : placeOf s.data.toList k = some ((r.num : Int), k - r.start + 1) := by
      obtain ⟨q, hq⟩ := hpre
      unfold placeOf ofRow
      rw [if_neg (by omega), ← hq, H1.out, List.append_assoc, List.find?_append, List.find?_eq_none.2 (by intro r hr; have := H2.out r hr; simp; omega)]
      simp [H3.out]
    rw [hsome]
    exact end_of_of hn0 (by omega) hD h7 rfl rfl h4 h5 h6 rfl rfl

theorem of_calls (s : ByteArray) (hs : s.size ≤ 9223372036854775800) (k : Int) (hk1 : k ≤ 9223372036854775807) (w : World) :
    Calls Tryd.prog 12 #[.string s, .int .i64 k] w fun e w' => e = .returned (.tuple #[encP (placeOf s.data.toList k), encE 3 (placeOf s.data.toList k)]) ∧ Below w.heap.size w w' := by
  by_cases hk : k < 0
  · exact of_neg s k hk w
  · exact callsIn_wide.1 (of_in s hs k (by omega) hk1 w)
end Go.Proofs.YthjpcfohpbbacaaDoor
