/-
  place.find, place.Of, place.Count over the iterator's contract.
-/
import Derived.Test.YthjpcfohpbbacaaDoorIter
namespace Go.Proofs.YthjpcfohpbbacaaDoor
open Go Go.RowKit Go.Shelf
attribute [local go_sem] Oper.semAt_some

theorem rows_calls (n : Nat) (s : ByteArray) (w : World) :
    CallsIn Fence.wide n Tryd.prog 31 #[.string s] w fun e w' => e = .returned (.func (.func 48) #[] #[.pointer (some ⟨w.heap.size, 0, none⟩)]) ∧ w' = w.alloc (.cells #[.string s] 9) := by
  refine callsIn_of_wp Tryd.func31 rfl trivial ?_ rfl
  simp only [Tryd.ntmps31, List.size_toArray, List.length_cons, List.length_nil, Nat.reduceAdd, Nat.reduceSub, Array.replicate_succ, Array.replicate_zero, List.push_toArray, List.append_toArray, List.nil_append, List.cons_append]
  gi_wp2
  go_ret
  exact ⟨rfl, rfl⟩

/-- The row with a number. -/
def rowAt (s : Bytes) (k : Int) : Option Row := (rowsOf s).find? fun r => decide ((r.num : Int) = k)
def encRowO : Option Row → Value
  | some r => encRow r
  | none => .agg #[.int .i64 0, .int .i64 0, .string ⟨#[]⟩]

/-- A cell that holds v and may be written. -/
def Cell (W : World) (p : Addr) (v : Value) : Prop := W.cell? p = some v ∧ W.frozen? p = false
theorem Cell.grown {W W' : World} {row : Option Nat} {p : Addr} {v : Value} (h : Cell W p v) (hg : W.grownBy W' row) (hne : some p.block ≠ row) : Cell W' p v :=
  ⟨hg.cell h.1 hne, (World.frozen?_of_block (hg.block p.block (World.block_lt_of_cell? W p h.1) hne)).trans h.2⟩
theorem Cell.in {W W' : World} {row : Option Nat} {lo hi : Nat} {p : Addr} {v : Value} (h : Cell W p v) (hg : W.grownBy W' row) (hr : ∀ r, row = some r → lo ≤ r ∧ r < hi) (hp : p.block < lo ∨ hi ≤ p.block) : Cell W' p v :=
  h.grown hg (fun e => by have := hr _ e.symm; omega)
theorem Cell.alloc {W : World} {p : Addr} {v : Value} (h : Cell W p v) (o : Obj) : Cell (W.alloc o) p v := h.grown (World.grownBy_alloc W o none) (by simp)
theorem Cell.new (W : World) (vs : Array Value) (T : TypeId) (i : Nat) (v : Value) (h : vs[i]? = some v) : Cell (W.alloc (.cells vs T)) ⟨W.heap.size, i, none⟩ v := by
  have := World.alloc_heap_new W (.cells vs T)
  constructor
  · unfold World.cell?; simp only [this]; exact h
  · unfold World.frozen?; simp only [this]; simp
theorem Cell.set {W : World} {p : Addr} {v : Value} (h : Cell W p v) (u : Value) : Cell (W.setCell p u) p u := ⟨World.cell?_setCell_same' _ _ _ (by rw [h.1]; rfl), by simpa using h.2⟩
theorem Cell.setOther {W : World} {p q : Addr} {v : Value} (h : Cell W p v) (hne : q ≠ p) (u : Value) : Cell (W.setCell q u) p v := ⟨(cell_other hne).trans h.1, by simpa using h.2⟩
theorem Cell.below {W W' : World} {n : Nat} {p : Addr} {v : Value} (h : Cell W p v) (hb : Below n W W') (hp : p.block < n) : Cell W' p v := ⟨(hb.cell hp).trans h.1, (hb.frozen hp).trans h.2⟩

/-- Three cells of a row. -/
structure RowAt (W : World) (b : Nat) (r : Row) : Prop where
  c0 : Cell W ⟨b, 0, none⟩ (.int .i64 r.num)
  c1 : Cell W ⟨b, 1, none⟩ (.int .i64 r.start)
  c2 : Cell W ⟨b, 2, none⟩ (.string (B r.text))
theorem RowAt.in {W W' : World} {row : Option Nat} {lo hi b : Nat} {r : Row} (h : RowAt W b r) (hg : W.grownBy W' row) (hr : ∀ r, row = some r → lo ≤ r ∧ r < hi) (hp : b < lo ∨ hi ≤ b) : RowAt W' b r :=
  ⟨h.c0.in hg hr hp, h.c1.in hg hr hp, h.c2.in hg hr hp⟩

theorem putObj_cell {W : World} {D : Nat} {o' : Obj} {p : Addr} {v : Value} (h : Cell W p v) (hne : p.block ≠ D) : Cell (W.putObj D o') p v :=
  h.grown (grownBy_putObj' W D o') (fun e => hne (by cases e; rfl))

set_option maxRecDepth 100000 in
theorem end_of_find {r : Option Row} {w W : World} {n0 D : Nat} {a b c d e : Value} {v0 v1 v2 : Value} {bv : Bool} (hn0 : w.heap.size = n0) (hD : n0 + 2 < D) (hK : W.heap[D]? = some (.deferred (some []))) (hb : Below n0 w W)
    (q0 : Cell W ⟨n0 + 1, 0, none⟩ v0) (q1 : Cell W ⟨n0 + 1, 1, none⟩ v1) (q2 : Cell W ⟨n0 + 1, 2, none⟩ v2) (q3 : Cell W ⟨n0 + 1 + 1, 0, none⟩ (.bool bv)) (v : Value) (hv : v = .agg #[v0, v1, v2]) (hbv : bv = r.isSome) :
    bodyPostM Fence.wide 5 Tryd.prog Tryd.f32 (fun e w' => e = Ending.returned (.tuple #[v, .bool r.isSome]) ∧ Below w.heap.size w w') Exit.ret
      { tmps := #[a, b, undef, .pointer (some ⟨n0, 0, none⟩), .pointer (some ⟨n0 + 1, 0, none⟩), .pointer (some ⟨n0 + 1 + 1, 0, none⟩), undef, c, d, undef, undef, undef, undef, undef, undef, e], defers := [{ target := .collected D, args := #[] }] } W := by
  refine ⟨by simp, .inl ⟨_, _, rfl, run_takeDeferred hK, ?_⟩⟩
  obtain ⟨q0, _⟩ := putObj_cell (o' := .deferred none) q0 (show n0 + 1 ≠ D by omega)
  obtain ⟨q1, _⟩ := putObj_cell (o' := .deferred none) q1 (show n0 + 1 ≠ D by omega)
  obtain ⟨q2, _⟩ := putObj_cell (o' := .deferred none) q2 (show n0 + 1 ≠ D by omega)
  obtain ⟨q3, _⟩ := putObj_cell (o' := .deferred none) q3 (show n0 + 1 + 1 ≠ D by omega)
  have hb2 : Below n0 w (W.putObj D (.deferred none)) := hb.grown (grownBy_putObj' W D _) (by have := hb.size; omega) (fun k e => by cases e; omega)
  subst hn0 hv hbv
  refine ⟨_, ?_, rfl, hb2⟩
  simp [results, Tryd.results32, go_sem, q0, q1, q2, q3]

set_option maxRecDepth 100000 in
set_option maxHeartbeats 4000000 in
theorem find_in (s : ByteArray) (hs : s.size ≤ 9223372036854775800) (k : Int) (w : World) :
    CallsIn Fence.wide 5 Tryd.prog 32 #[.string s, .int .i64 k] w fun e w' => e = .returned (.tuple #[encRowO (rowAt s.data.toList k), .bool (rowAt s.data.toList k).isSome]) ∧ Below w.heap.size w w' := by
  refine callsIn_of_wp_marks Tryd.func32 rfl trivial ?_ rfl
  simp only [Tryd.ntmps32, List.size_toArray, List.length_cons, List.length_nil, Nat.reduceAdd, Nat.reduceSub, Array.replicate_succ, Array.replicate_zero, List.push_toArray, List.append_toArray, List.nil_append, List.cons_append]
  gi_wp2_with (refine ⟨trivial, ?_⟩; gi_at_call 31; refine (rows_calls _ _ _).mono ?_; rintro e w' ⟨rfl, rfl⟩)
  have hb0 : Below w.heap.size w ((((w.alloc (.cells #[.int .i64 k] 3)).alloc (.cells #[.int .i64 0, .int .i64 0, .string ⟨#[]⟩] 58)).alloc (.cells #[.bool false] 4)).alloc (.cells #[.string s] 9)) :=
    ((((Below.refl _ w).alloc (Nat.le_refl _) _).alloc (by simp) _).alloc (by simp; omega) _).alloc (by simp; omega) _
  have k0 := (((Cell.new w #[.int .i64 k] 3 0 _ rfl).alloc (.cells #[.int .i64 0, .int .i64 0, .string ⟨#[]⟩] 58)).alloc (.cells #[.bool false] 4)).alloc (.cells #[.string s] 9)
  have k1 := ((Cell.new (w.alloc (.cells #[.int .i64 k] 3)) #[.int .i64 0, .int .i64 0, .string ⟨#[]⟩] 58 0 _ rfl).alloc (.cells #[.bool false] 4)).alloc (.cells #[.string s] 9)
  have k2 := ((Cell.new (w.alloc (.cells #[.int .i64 k] 3)) #[.int .i64 0, .int .i64 0, .string ⟨#[]⟩] 58 1 _ rfl).alloc (.cells #[.bool false] 4)).alloc (.cells #[.string s] 9)
  have k3 := ((Cell.new (w.alloc (.cells #[.int .i64 k] 3)) #[.int .i64 0, .int .i64 0, .string ⟨#[]⟩] 58 2 _ rfl).alloc (.cells #[.bool false] 4)).alloc (.cells #[.string s] 9)
  have k4 := (Cell.new ((w.alloc (.cells #[.int .i64 k] 3)).alloc (.cells #[.int .i64 0, .int .i64 0, .string ⟨#[]⟩] 58)) #[.bool false] 4 0 _ rfl).alloc (.cells #[.string s] 9)
  have k5 := Cell.new (((w.alloc (.cells #[.int .i64 k] 3)).alloc (.cells #[.int .i64 0, .int .i64 0, .string ⟨#[]⟩] 58)).alloc (.cells #[.bool false] 4)) #[.string s] 9 0 _ rfl
  have hsz : ((((w.alloc (.cells #[.int .i64 k] 3)).alloc (.cells #[.int .i64 0, .int .i64 0, .string ⟨#[]⟩] 58)).alloc (.cells #[.bool false] 4)).alloc (.cells #[.string s] 9)).heap.size = w.heap.size + 4 := by simp
  simp only [World.size_alloc] at k1 k2 k3 k4 k5
  generalize (((w.alloc (.cells #[.int .i64 k] 3)).alloc (.cells #[.int .i64 0, .int .i64 0, .string ⟨#[]⟩] 58)).alloc (.cells #[.bool false] 4)).alloc (.cells #[.string s] 9) = w4 at hb0 k0 k1 k2 k3 k4 k5 hsz ⊢
  generalize hn0 : w.heap.size = n0 at *
  refine wpIn_rangeFunc_ownR rfl (by omega) (gf := 48) (lb := #[.pointer (some ⟨n0 + 3, 0, none⟩)]) rfl trivial (enters_of Tryd.func48 (by kernel_rfl) rfl)
    (rows_stops 4 s hs (n0 + 3) (n0 + 3) w4 (Nat.le_refl _) (by omega) k5.1) (Below.refl _ _) (fun _ => rfl)
    (fun pre W => (∀ r ∈ pre, ¬ (r.num : Int) = k) ∧ Cell W ⟨n0, 0, none⟩ (.int .i64 k) ∧ Cell W ⟨n0 + 1, 0, none⟩ (.int .i64 0) ∧ Cell W ⟨n0 + 1, 1, none⟩ (.int .i64 0) ∧ Cell W ⟨n0 + 1, 2, none⟩ (.string ⟨#[]⟩) ∧ Cell W ⟨n0 + 1 + 1, 0, none⟩ (.bool false) ∧ Below n0 w W)
    (fun c pre W => c = .ret ∧ ∃ (p : List Row) (r : Row), pre = p ++ [r] ∧ (∀ r ∈ p, ¬ (r.num : Int) = k) ∧ (r.num : Int) = k ∧ RowAt W (n0 + 1) r ∧ Cell W ⟨n0 + 1 + 1, 0, none⟩ (.bool true) ∧ Below n0 w W)
    (fun s A B row hs hg hr => ⟨hs.1, hs.2.1.in hg hr (by simp; omega), hs.2.2.1.in hg hr (by simp; omega), hs.2.2.2.1.in hg hr (by simp; omega), hs.2.2.2.2.1.in hg hr (by simp; omega), hs.2.2.2.2.2.1.in hg hr (by simp; omega),
      hs.2.2.2.2.2.2.grown hg (by have := hs.2.2.2.2.2.2.size; omega) (fun q e => by have := hr q e; omega)⟩)
    (fun c s A B row hs hg hr => by
      obtain ⟨hc, p, r, h1, h2, h3, h4, h5, h6⟩ := hs
      exact ⟨hc, p, r, h1, h2, h3, h4.in hg hr (by omega), h5.in hg hr (by simp; omega), h6.grown hg (by have := h6.size; omega) (fun q e => by have := hr q e; omega)⟩)
    ⟨fun r h => (by cases h), k0, k1, k2, k3, k4, hb0⟩
    (fun x a' W => ∃ bx, n0 + 4 + 2 + 1 ≤ bx ∧ RowAt W bx x ∧ a' = { tmps := #[.string s, .int .i64 k, undef, .pointer (some ⟨n0, 0, none⟩), .pointer (some ⟨n0 + 1, 0, none⟩), .pointer (some ⟨n0 + 1 + 1, 0, none⟩), .pointer (some ⟨bx, 0, none⟩), .string s, .func (.func 48) #[] #[.pointer (some ⟨n0 + 3, 0, none⟩)], encRow x, undef, undef, undef, undef, undef, undef], defers := [] })
    (fun x a' _ A B row hs hg hr => by
      obtain ⟨bx, h1, h2, h3⟩ := hs
      exact ⟨bx, h1, h2.in hg hr (by omega), h3⟩)
    ?assign ?body ?done ?stop
  case assign => 
    rintro l pre x W Kt ⟨h1, h2, h3, h4, h5, h6, h7⟩ hW hK
    dsimp only [encRow]
    gi_wp2_with fail
    exact hK _ _ ((KeepsIn.refl _ _ _).alloc _) ⟨h1, h2.alloc _, h3.alloc _, h4.alloc _, h5.alloc _, h6.alloc _, h7.alloc (by omega) _⟩
      ⟨W.heap.size, by omega, ⟨Cell.new _ _ _ 0 _ rfl, Cell.new _ _ _ 1 _ rfl, Cell.new _ _ _ 2 _ rfl⟩, rfl⟩
  case body =>
    rintro l pre x a' W ⟨h1, ⟨h2, g2⟩, ⟨h3, g3⟩, ⟨h4, g4⟩, ⟨h5, g5⟩, ⟨h6, g6⟩, h7⟩ ⟨bx, hbx, ⟨⟨r0, q0⟩, ⟨r1, q1⟩, ⟨r2, q2⟩⟩, rfl⟩ hlen hsp hW
    clear hsp
    by_cases he : (x.num : Int) = k
    · have heb : ((x.num : Int) == k) = true := beq_iff_eq.2 he
      have HE := Lib.hid he
      clear he
      gi_wp2_with fail
      have s1 := h7.setCell (p := ⟨n0 + 1, 0, none⟩) (show n0 ≤ n0 + 1 by omega) (.int .i64 x.num)
      have s2 := s1.setCell (p := ⟨n0 + 1, 1, none⟩) (show n0 ≤ n0 + 1 by omega) (.int .i64 x.start)
      have s3 := s2.setCell (p := ⟨n0 + 1, 2, none⟩) (show n0 ≤ n0 + 1 by omega) (.string (B x.text))
      have s4 := s3.setCell (p := ⟨n0 + 1 + 1, 0, none⟩) (show n0 ≤ n0 + 1 + 1 by omega) (.bool true)
      refine ⟨((((KeepsIn.refl _ _ _).setCell ?_ _).setCell ?_ _).setCell ?_ _).setCell ?_ _, rfl, pre, x, rfl, h1, HE.out, ⟨?_, ?_, ?_⟩, ?_, s4⟩
      · left; show n0 + 1 < _; omega
      · left; show n0 + 1 < _; omega
      · left; show n0 + 1 < _; omega
      · left; show n0 + 1 + 1 < _; omega
      · exact (((Cell.set ⟨h3, g3⟩ _).setOther (by intro h; cases h) _).setOther (by intro h; cases h) _).setOther (by intro h; cases h) _
      · exact (((Cell.setOther ⟨h4, g4⟩ (by intro h; cases h) _).set _).setOther (by intro h; cases h) _).setOther (by intro h; cases h) _
      · exact (((Cell.setOther ⟨h5, g5⟩ (by intro h; cases h) _).setOther (by intro h; cases h) _).set _).setOther (by intro h; cases h) _
      · exact (((Cell.setOther ⟨h6, g6⟩ (by intro h; cases h) _).setOther (by intro h; cases h) _).setOther (by intro h; cases h) _).set _
    · have heb : ((x.num : Int) == k) = false := beq_eq_false_iff_ne.2 he
      have HE := Lib.hid he
      clear he
      gi_wp2_with fail
      refine ⟨KeepsIn.refl _ _ _, ?_, ⟨h2, g2⟩, ⟨h3, g3⟩, ⟨h4, g4⟩, ⟨h5, g5⟩, ⟨h6, g6⟩, h7⟩
      intro r hr
      rcases List.mem_append.1 hr with hr | hr
      · exact h1 r hr
      · obtain rfl := List.mem_singleton.1 hr
        exact HE.out
  case done =>
    rintro xs W rfl ⟨h1, ⟨h2, g2⟩, ⟨h3, g3⟩, ⟨h4, g4⟩, ⟨h5, g5⟩, ⟨h6, g6⟩, h7⟩ hD
    have H1 := Lib.hid h1
    clear h1 k0 k1 k2 k3 k4 k5
    gi_wp2_with fail
    have hnone : rowAt s.data.toList k = none := by
      unfold rowAt
      rw [List.find?_eq_none]
      intro r hr
      simpa using H1.out r hr
    rw [hnone]
    have s1 := h7.setCell (p := ⟨n0 + 1, 0, none⟩) (show n0 ≤ n0 + 1 by omega) (.int .i64 0)
    have s2 := s1.setCell (p := ⟨n0 + 1, 1, none⟩) (show n0 ≤ n0 + 1 by omega) (.int .i64 0)
    have s3 := s2.setCell (p := ⟨n0 + 1, 2, none⟩) (show n0 ≤ n0 + 1 by omega) (.string ⟨#[]⟩)
    have s4 := s3.setCell (p := ⟨n0 + 1 + 1, 0, none⟩) (show n0 ≤ n0 + 1 + 1 by omega) (.bool false)
    have q0 := (((Cell.set ⟨h3, g3⟩ (.int .i64 0)).setOther (q := ⟨n0 + 1, 1, none⟩) (by intro h; cases h) (.int .i64 0)).setOther (q := ⟨n0 + 1, 2, none⟩) (by intro h; cases h) (.string ⟨#[]⟩)).setOther (q := ⟨n0 + 1 + 1, 0, none⟩) (by intro h; cases h) (.bool false)
    have q1 := (((Cell.setOther ⟨h4, g4⟩ (q := ⟨n0 + 1, 0, none⟩) (by intro h; cases h) (.int .i64 0)).set (.int .i64 0)).setOther (q := ⟨n0 + 1, 2, none⟩) (by intro h; cases h) (.string ⟨#[]⟩)).setOther (q := ⟨n0 + 1 + 1, 0, none⟩) (by intro h; cases h) (.bool false)
    have q2 := (((Cell.setOther ⟨h5, g5⟩ (q := ⟨n0 + 1, 0, none⟩) (by intro h; cases h) (.int .i64 0)).setOther (q := ⟨n0 + 1, 1, none⟩) (by intro h; cases h) (.int .i64 0)).set (.string ⟨#[]⟩)).setOther (q := ⟨n0 + 1 + 1, 0, none⟩) (by intro h; cases h) (.bool false)
    have q3 := (((Cell.setOther ⟨h6, g6⟩ (q := ⟨n0 + 1, 0, none⟩) (by intro h; cases h) (.int .i64 0)).setOther (q := ⟨n0 + 1, 1, none⟩) (by intro h; cases h) (.int .i64 0)).setOther (q := ⟨n0 + 1, 2, none⟩) (by intro h; cases h) (.string ⟨#[]⟩)).set (.bool false)
    have hD' : ((((W.setCell ⟨n0 + 1, 0, none⟩ (.int .i64 0)).setCell ⟨n0 + 1, 1, none⟩ (.int .i64 0)).setCell ⟨n0 + 1, 2, none⟩ (.string ⟨#[]⟩)).setCell ⟨n0 + 1 + 1, 0, none⟩ (.bool false)).heap[w4.heap.size]? = some (.deferred (some [])) := by
      rw [Below.heap_setCell _ _ _ _ (show w4.heap.size ≠ n0 + 1 + 1 by omega), Below.heap_setCell _ _ _ _ (show w4.heap.size ≠ n0 + 1 by omega), Below.heap_setCell _ _ _ _ (show w4.heap.size ≠ n0 + 1 by omega), Below.heap_setCell _ _ _ _ (show w4.heap.size ≠ n0 + 1 by omega)]
      exact hD
    generalize (((W.setCell ⟨n0 + 1, 0, none⟩ (.int .i64 0)).setCell ⟨n0 + 1, 1, none⟩ (.int .i64 0)).setCell ⟨n0 + 1, 2, none⟩ (.string ⟨#[]⟩)).setCell ⟨n0 + 1 + 1, 0, none⟩ (.bool false) = W2 at s4 q0 q1 q2 q3 hD' ⊢
    exact end_of_find (r := none) hn0 (by omega) hD' s4 q0 q1 q2 q3 (encRowO none) rfl rfl
  case stop =>
    rintro c pre W hpre ⟨rfl, p, r, h1, h2, h3, h4, h5, h6⟩ hD
    have H1 := Lib.hid h1
    have H2 := Lib.hid h2
    have H3 := Lib.hid h3
    clear h1 h2 h3 k0 k1 k2 k3 k4 k5
    gi_wp2_with fail
    have hsome : rowAt s.data.toList k = some r := by
      obtain ⟨q, hq⟩ := hpre
      unfold rowAt
      rw [← hq, H1.out, List.append_assoc, List.find?_append, List.find?_eq_none.2 (by simpa using H2.out)]
      simp [H3.out]
    rw [hsome]
    exact end_of_find (r := some r) hn0 (by omega) hD h6 h4.c0 h4.c1 h4.c2 h5 (encRowO (some r)) rfl rfl
theorem find_calls (s : ByteArray) (hs : s.size ≤ 9223372036854775800) (k : Int) (w : World) :
    Calls Tryd.prog 32 #[.string s, .int .i64 k] w fun e w' => e = .returned (.tuple #[encRowO (rowAt s.data.toList k), .bool (rowAt s.data.toList k).isSome]) ∧ Below w.heap.size w w' :=
  callsIn_wide.1 (find_in s hs k w)
end Go.Proofs.YthjpcfohpbbacaaDoor
