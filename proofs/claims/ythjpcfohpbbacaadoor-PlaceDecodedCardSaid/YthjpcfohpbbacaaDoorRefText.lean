/-
  rewindref01: Text, Compare, Parse: contracts.
-/
import Derived.Test.YthjpcfohpbbacaaDoorRefNum
namespace Go.Proofs.YthjpcfohpbbacaaDoor
open Go Go.RowKit Go.Shelf Go.Sort

set_option maxRecDepth 100000 in
set_option maxHeartbeats 2000000 in
theorem text_ref (l c : Int) (hl : l ≤ 9223372036854775807) (hc : c ≤ 9223372036854775807) (w : World) :
    Calls Tryd.prog 21 #[.agg #[.int .i64 l, .int .i64 c]] w fun e w' => e = .returned (.tuple #[encS (placeText l c), encE 2 (placeText l c)]) ∧ Below w.heap.size w w' := by
  unfold placeText
  by_cases h1 : l < 1
  · rw [if_pos (Or.inl h1)]
    have e1 : decide (l < 1) = true := by simpa using h1
    go_enter Tryd.func21, Tryd.ntmps21
    go_wp2
    go_ret2
    exact ⟨rfl, ((Below.refl _ w).alloc (Nat.le_refl _) _)⟩
  · have e1 : decide (l < 1) = false := by simpa using h1
    by_cases h2 : c < 1
    · rw [if_pos (Or.inr h2)]
      have e2 : decide (c < 1) = true := by simpa using h2
      go_enter Tryd.func21, Tryd.ntmps21
      go_wp2
      go_ret2
      exact ⟨rfl, ((Below.refl _ w).alloc (Nat.le_refl _) _)⟩
    · rw [if_neg (by omega)]
      have e2 : decide (c < 1) = false := by simpa using h2
      have n1 := itoa_length l (by omega) hl
      have n2 := itoa_length c (by omega) hc
      have cL : ∀ W, Calls Tryd.prog 35 #[.int .i64 l] W fun e W' => e = .returned (.string (B (Lib.itoa l))) ∧ Below W.heap.size W W' := fun W => (digits_calls l (by omega) hl W).mono fun _ _ ⟨h1, h2⟩ => ⟨h1, by rw [← h2]; exact Below.refl _ _⟩
      have cC : ∀ W, Calls Tryd.prog 35 #[.int .i64 c] W fun e W' => e = .returned (.string (B (Lib.itoa c))) ∧ Below W.heap.size W W' := fun W => (digits_calls c (by omega) hc W).mono fun _ _ ⟨h1, h2⟩ => ⟨h1, by rw [← h2]; exact Below.refl _ _⟩
      have k0 := fun d os => cell_regrown (Cell.new w #[.int .i64 l, .int .i64 c] 24 0 _ rfl).1 d os
      have k1 := fun d os => cell_regrown (Cell.new w #[.int .i64 l, .int .i64 c] 24 1 _ rfl).1 d os
      have hb2 : Below w.heap.size w (w.alloc (.cells #[.int .i64 l, .int .i64 c] 24)) := (Below.refl _ w).alloc (Nat.le_refl _) _
      generalize Lib.itoa l = tl at *
      generalize Lib.itoa c = tc at *
      have m1 : ¬ 9223372036854775807 < tl.length + 1 := by omega
      have m2 : ¬ 9223372036854775807 < tl.length + 1 + tc.length := by omega
      have CL := Lib.hid cL
      have CC := Lib.hid cC
      clear cL cC
      go_enter Tryd.func21, Tryd.ntmps21
      go_wp2
      generalize w.alloc (.cells #[.int .i64 l, .int .i64 c] 24) = w2 at *
      have cL := fun d os => Calls.regrown_of (d := d) (os := os) (CL.out (grow (redrawn w2 d) os))
      have cC := fun d os => Calls.regrown_of (d := d) (os := os) (CC.out (grow (redrawn w2 d) os))
      clear CL CC
      refine wp_region_quiet_below (by kernel_rfl) (by kernel_rfl) ?_
      repeat (quiet_step (first | with_reducible exact cL _ _ | with_reducible exact cC _ _))
      refine wpQuiet_nil ?_
      intro _ hw'
      obtain ⟨⟨dq, osq⟩, hw''⟩ := hw'
      subst hw''
      go_wp2
      go_ret2
      refine ⟨?_, hb2.trans ((below_regrown w2 dq osq).mono hb2.size)⟩
      show Ending.returned (.tuple #[.string (B tl ++ B [58] ++ B tc), .int .i64 0]) = _
      rw [B_append, B_append, List.append_assoc]
      rfl

set_option maxRecDepth 100000 in
set_option maxHeartbeats 2000000 in
theorem compare_ref (a b c d : Int) (w : World) :
    Calls Tryd.prog 25 #[.agg #[.int .i64 a, .int .i64 b], .agg #[.int .i64 c, .int .i64 d]] w fun e w' => e = .returned (.int .i64 (if a = c then Lib.compareInt b d else Lib.compareInt a c)) ∧ Below w.heap.size w w' := by
  have hb : Below w.heap.size w ((w.alloc (.cells #[.int .i64 a, .int .i64 b] 24)).alloc (.cells #[.int .i64 c, .int .i64 d] 24)) := ((Below.refl _ w).alloc (Nat.le_refl _) _).alloc (by simp) _
  have HB := Lib.hid hb
  clear hb
  by_cases hac : a = c
  · subst hac
    rw [if_pos rfl]
    by_cases hbd : b = d
    · subst hbd
      rw [show Lib.compareInt b b = 0 by simp [Lib.compareInt]]
      go_enter Tryd.func25, Tryd.ntmps25
      go_wp2
      go_ret
      exact ⟨rfl, HB.out⟩
    · have e1 : (b == d) = false := beq_eq_false_iff_ne.2 hbd
      by_cases hlt : b < d
      · rw [show Lib.compareInt b d = -1 by unfold Lib.compareInt; rw [if_pos hlt]]
        go_enter Tryd.func25, Tryd.ntmps25
        go_wp2
        go_ret
        exact ⟨rfl, HB.out⟩
      · rw [show Lib.compareInt b d = 1 by unfold Lib.compareInt; rw [if_neg hlt, if_pos (by omega)]]
        go_enter Tryd.func25, Tryd.ntmps25
        go_wp2
        go_ret
        exact ⟨rfl, HB.out⟩
  · rw [if_neg hac]
    have e1 : (a == c) = false := beq_eq_false_iff_ne.2 hac
    by_cases hlt : a < c
    · rw [show Lib.compareInt a c = -1 by unfold Lib.compareInt; rw [if_pos hlt]]
      go_enter Tryd.func25, Tryd.ntmps25
      go_wp2
      go_ret
      exact ⟨rfl, HB.out⟩
    · rw [show Lib.compareInt a c = 1 by unfold Lib.compareInt; rw [if_neg hlt, if_pos (by omega)]]
      go_enter Tryd.func25, Tryd.ntmps25
      go_wp2
      go_ret
      exact ⟨rfl, HB.out⟩
end Go.Proofs.YthjpcfohpbbacaaDoor
