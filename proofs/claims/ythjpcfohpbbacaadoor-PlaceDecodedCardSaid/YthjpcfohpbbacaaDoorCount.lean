/-
  place.Count, place.Offset, place.Line.
-/
import Derived.Test.YthjpcfohpbbacaaDoorOf
namespace Go.Proofs.YthjpcfohpbbacaaDoor
open Go Go.RowKit Go.Shelf
attribute [local go_sem] Oper.semAt_some

set_option maxRecDepth 100000 in
set_option maxHeartbeats 4000000 in
theorem count_in (s : ByteArray) (hs : s.size ≤ 9223372036854775800) (w : World) :
    CallsIn Fence.wide 5 Tryd.prog 18 #[.string s] w fun e w' => e = .returned (.int .i64 (lines s.data.toList).length) ∧ Below w.heap.size w w' := by
  refine callsIn_of_wp_marks Tryd.func18 rfl trivial ?_ rfl
  simp only [Tryd.ntmps18, List.size_toArray, List.length_cons, List.length_nil, Nat.reduceAdd, Nat.reduceSub, Array.replicate_succ, Array.replicate_zero, List.push_toArray, List.append_toArray, List.nil_append, List.cons_append]
  gi_wp2_with (refine ⟨trivial, ?_⟩; gi_at_call 31; refine (rows_calls _ _ _).mono ?_; rintro e w' ⟨rfl, rfl⟩)
  have hb0 : Below w.heap.size w ((w.alloc (.cells #[.int .i64 0] 3)).alloc (.cells #[.string s] 9)) :=
    ((Below.refl _ w).alloc (Nat.le_refl _) _).alloc (by simp) _
  have k0 := (Cell.new w #[.int .i64 0] 3 0 _ rfl).alloc (.cells #[.string s] 9)
  have k5 := Cell.new (w.alloc (.cells #[.int .i64 0] 3)) #[.string s] 9 0 _ rfl
  have hsz : ((w.alloc (.cells #[.int .i64 0] 3)).alloc (.cells #[.string s] 9)).heap.size = w.heap.size + 2 := by simp
  simp only [World.size_alloc] at k5
  generalize (w.alloc (.cells #[.int .i64 0] 3)).alloc (.cells #[.string s] 9) = w4 at hb0 k0 k5 hsz ⊢
  generalize hn0 : w.heap.size = n0 at *
  have hmax := lines_length_le s.data.toList
  rw [← Lib.size_eq] at hmax
  refine wpIn_rangeFunc_ownR rfl (by omega) (gf := 48) (lb := #[.pointer (some ⟨n0 + 1, 0, none⟩)]) rfl trivial (enters_of Tryd.func48 (by kernel_rfl) rfl)
    (rows_stops 4 s hs (n0 + 1) (n0 + 1) w4 (Nat.le_refl _) (by omega) k5.1) (Below.refl _ _) (fun _ => rfl)
    (fun pre W => Cell W ⟨n0, 0, none⟩ (.int .i64 pre.length) ∧ Below n0 w W)
    (fun _ _ _ => False)
    (fun s A B row hs hg hr => ⟨hs.1.in hg hr (by simp; omega), hs.2.grown hg (by have := hs.2.size; omega) (fun q e => by have := hr q e; omega)⟩)
    (fun c s A B row hs hg hr => hs)
    ⟨k0, hb0⟩
    (fun x a' _ => a' = { tmps := #[.string s, undef, .int .i64 0, .pointer (some ⟨n0, 0, none⟩), .string s, .func (.func 48) #[] #[.pointer (some ⟨n0 + 1, 0, none⟩)], encRow x, undef, undef, undef], defers := [] })
    (fun x a' _ A B row hs hg hr => hs)
    ?assign ?body ?done ?stop
  case assign =>
    rintro l pre x W Kt ⟨h1, h2⟩ hW hK
    dsimp only [encRow]
    gi_wp2_with fail
    exact hK _ _ (KeepsIn.refl _ _ _) ⟨h1, h2⟩ (by simp [encRow])
  case body =>
    rintro l pre x a' W ⟨⟨h1, g1⟩, h2⟩ rfl hlen hsp hW
    rw [rowsOf_length] at hlen
    have hl1 : (pre.length : Int) ≤ 9223372036854775801 := by omega
    clear hsp k0 k5
    gi_wp2_with fail
    refine ⟨(KeepsIn.refl _ _ _).setCell (by left; show n0 < _; omega) _, ?_, h2.setCell (Nat.le_refl _) _⟩
    rw [List.length_append]
    exact Cell.set ⟨h1, g1⟩ _
  case done =>
    rintro xs W rfl ⟨⟨h1, g1⟩, h2⟩ hD
    clear k0 k5
    gi_wp2_with fail
    refine ⟨by simp, .inl ⟨_, _, rfl, run_takeDeferred hD, ?_⟩⟩
    rw [← rowsOf_length]
    have hb2 : Below n0 w (W.putObj w4.heap.size (.deferred none)) := h2.grown (grownBy_putObj' W _ _) (by have := h2.size; omega) (fun k e => by cases e; omega)
    exact ⟨_, results_tmp rfl _ _ _, rfl, by rw [hn0]; exact hb2⟩
  case stop =>
    rintro c pre W _ h _
    exact h.elim

theorem count_calls (s : ByteArray) (hs : s.size ≤ 9223372036854775800) (w : World) :
    Calls Tryd.prog 18 #[.string s] w fun e w' => e = .returned (.int .i64 (lines s.data.toList).length) ∧ Below w.heap.size w w' :=
  callsIn_wide.1 (count_in s hs w)

/-- What Offset gives. -/
def placeOffset (s : Bytes) (line col : Int) : Option Int :=
  match rowAt s line with
  | none => none
  | some r => if col < 1 ∨ (r.text.length : Int) < col - 1 then none else some (r.start + col - 1)
def encI : Option Int → Value
  | some v => .int .i64 v
  | none => .int .i64 0

set_option maxRecDepth 100000 in
set_option maxHeartbeats 4000000 in
theorem offset_calls (s : ByteArray) (hs : s.size ≤ 9223372036854775800) (line col : Int) (hc0 : -9223372036854775808 ≤ col) (hc1 : col ≤ 9223372036854775807) (w : World) :
    Calls Tryd.prog 14 #[.string s, .agg #[.int .i64 line, .int .i64 col]] w fun e w' => e = .returned (.tuple #[encI (placeOffset s.data.toList line col), encE 3 (placeOffset s.data.toList line col)]) ∧ Below w.heap.size w w' := by
  have hF := fun W => find_calls s hs line W
  unfold placeOffset
  have hend : ∀ r, rowAt s.data.toList line = some r → (r.start : Int) + r.text.length ≤ s.size := fun r hr => by
    obtain ⟨k, hk⟩ := List.getElem?_of_mem (List.mem_of_find?_eq_some hr)
    have := rowsOf_end hk
    rw [← Lib.size_eq] at this
    omega
  generalize rowAt s.data.toList line = r at hF hend ⊢
  have HF := Lib.hid hF
  clear hF
  cases r with
  | none =>
    dsimp only
    go_enter Tryd.func14, Tryd.ntmps14
    go_wp2_with fail
    refine (HF.out _).mono ?_
    clear HF
    rintro e w' ⟨rfl, hb⟩
    have hb0 : Below w.heap.size w w' := ((Below.refl _ w).alloc (Nat.le_refl _) _).trans (hb.mono (by simp))
    have hsz : w.heap.size < w'.heap.size := by have := hb.size; simp at this; omega
    clear hb
    dsimp only [encRowO, Option.isSome]
    go_wp2
    go_ret2
    exact ⟨rfl, hb0.alloc (by omega) _⟩
  | some r =>
    dsimp only
    by_cases hcol : col < 1
    · rw [if_pos (Or.inl hcol)]
      have hcd : decide (col < 1) = true := by simpa using hcol
      go_enter Tryd.func14, Tryd.ntmps14
      go_wp2_with fail
      refine (HF.out _).mono ?_
      clear HF
      rintro e w' ⟨rfl, hb⟩
      have hb0 : Below w.heap.size w w' := ((Below.refl _ w).alloc (Nat.le_refl _) _).trans (hb.mono (by simp))
      have hsz : w.heap.size < w'.heap.size := by have := hb.size; simp at this; omega
      have c1 : w'.cell? ⟨w.heap.size, 1, none⟩ = some (.int .i64 col) := ((Cell.new w #[.int .i64 line, .int .i64 col] 24 1 _ rfl).below hb (by simp)).1
      clear hb
      dsimp only [encRowO, Option.isSome, encRow]
      go_wp2
      go_ret2
      exact ⟨rfl, hb0.alloc (by omega) _⟩
    · by_cases hlen : (r.text.length : Int) < col - 1
      · rw [if_pos (Or.inr hlen)]
        have hcd : decide (col < 1) = false := by simpa using hcol
        have hld : decide ((r.text.length : Int) < col - 1) = true := by simpa using hlen
        go_enter Tryd.func14, Tryd.ntmps14
        go_wp2_with fail
        refine (HF.out _).mono ?_
        clear HF
        rintro e w' ⟨rfl, hb⟩
        have hb0 : Below w.heap.size w w' := ((Below.refl _ w).alloc (Nat.le_refl _) _).trans (hb.mono (by simp))
        have hsz : w.heap.size < w'.heap.size := by have := hb.size; simp at this; omega
        have c1 : w'.cell? ⟨w.heap.size, 1, none⟩ = some (.int .i64 col) := ((Cell.new w #[.int .i64 line, .int .i64 col] 24 1 _ rfl).below hb (by simp)).1
        clear hb
        dsimp only [encRowO, Option.isSome, encRow]
        go_wp2
        go_ret2
        exact ⟨rfl, hb0.alloc (by omega) _⟩
      · rw [if_neg (by omega)]
        have hcd : decide (col < 1) = false := by simpa using hcol
        have hld : decide ((r.text.length : Int) < col - 1) = false := by simpa using hlen
        have hst : (r.start : Int) + r.text.length ≤ s.size := hend r rfl
        go_enter Tryd.func14, Tryd.ntmps14
        go_wp2_with fail
        refine (HF.out _).mono ?_
        clear HF
        rintro e w' ⟨rfl, hb⟩
        have hb0 : Below w.heap.size w w' := ((Below.refl _ w).alloc (Nat.le_refl _) _).trans (hb.mono (by simp))
        have hsz : w.heap.size < w'.heap.size := by have := hb.size; simp at this; omega
        have c1 : w'.cell? ⟨w.heap.size, 1, none⟩ = some (.int .i64 col) := ((Cell.new w #[.int .i64 line, .int .i64 col] 24 1 _ rfl).below hb (by simp)).1
        clear hb
        dsimp only [encRowO, Option.isSome, encRow]
        go_wp2
        go_ret2
        exact ⟨rfl, hb0.alloc (by omega) _⟩

/-- What Line gives. -/
def placeLine (s : Bytes) (n : Int) : Option Bytes := (rowAt s n).map (·.text)
def encS : Option Bytes → Value
  | some v => .string (B v)
  | none => .string ⟨#[]⟩
set_option maxRecDepth 100000 in
set_option maxHeartbeats 4000000 in
theorem line_calls (s : ByteArray) (hs : s.size ≤ 9223372036854775800) (n : Int) (w : World) :
    Calls Tryd.prog 16 #[.string s, .int .i64 n] w fun e w' => e = .returned (.tuple #[encS (placeLine s.data.toList n), encE 3 (placeLine s.data.toList n)]) ∧ Below w.heap.size w w' := by
  have hF := fun W => find_calls s hs n W
  unfold placeLine
  generalize rowAt s.data.toList n = r at hF ⊢
  have HF := Lib.hid hF
  clear hF
  cases r with
  | none =>
    go_enter Tryd.func16, Tryd.ntmps16
    go_wp2_with fail
    refine (HF.out _).mono ?_
    clear HF
    rintro e w' ⟨rfl, hb⟩
    dsimp only [encRowO, Option.isSome]
    go_wp2
    go_ret2
    exact ⟨rfl, hb.alloc hb.size _⟩
  | some r =>
    go_enter Tryd.func16, Tryd.ntmps16
    go_wp2_with fail
    refine (HF.out _).mono ?_
    clear HF
    rintro e w' ⟨rfl, hb⟩
    dsimp only [encRowO, Option.isSome, encRow]
    go_wp2
    go_ret2
    exact ⟨rfl, hb.alloc hb.size _⟩
end Go.Proofs.YthjpcfohpbbacaaDoor
