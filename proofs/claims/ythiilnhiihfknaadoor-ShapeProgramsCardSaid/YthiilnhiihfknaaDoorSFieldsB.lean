/-
  The reference's fields: its contract. Written by gen3_fields.py.
-/
import Derived.Test.YthiilnhiihfknaaDoorSFieldsD
import Derived.Lib.QuietBelow
namespace Go.Proofs.YthiilnhiihfknaaDoor
open Go Go.RowKit Go.Sort


set_option maxHeartbeats 4000000 in
theorem fields_4 (op num : Int) (hub : num ≤ 9223372036854775807) (name : Bytes) (hn : name.length ≤ 9223372036854775807) (args : List Ex) (v : Value) (w : World) :
    Calls Tryd.prog 75 #[.agg #[.int .i64 4, .int .i64 op, .int .i64 num, .string (B name), v]] w fun x w' => x = .returned (.tuple #[.int .i64 1, .bool (fldB ⟨4, op, num, name, args⟩)]) ∧ Below w.heap.size w w' := by
  by_cases h0a : op = 14
  · subst h0a
    by_cases h1 : num = 0
    · subst h1
      rcases name with _ | ⟨c, r⟩
      · have F := Lib.hid (show fldB ⟨4, 14, 0, [], args⟩ = true by (simp [fldB, exRow, howB]) <;> (intros; omega))
        have hb2 : Below w.heap.size w (w.alloc (.cells #[.int .i64 4, .int .i64 14, .int .i64 0, .string ⟨#[]⟩, v] 24)) := (Below.refl _ w).alloc (Nat.le_refl _) _
        have k0 := fun d os => cell_regrown (newCell w #[.int .i64 4, .int .i64 14, .int .i64 0, .string ⟨#[]⟩, v] 24 0 _ rfl) d os
        have k1 := fun d os => cell_regrown (newCell w #[.int .i64 4, .int .i64 14, .int .i64 0, .string ⟨#[]⟩, v] 24 1 _ rfl) d os
        have k2 := fun d os => cell_regrown (newCell w #[.int .i64 4, .int .i64 14, .int .i64 0, .string ⟨#[]⟩, v] 24 2 _ rfl) d os
        have k3 := fun d os => cell_regrown (newCell w #[.int .i64 4, .int .i64 14, .int .i64 0, .string ⟨#[]⟩, v] 24 3 _ rfl) d os
        have k4 := fun d os => cell_regrown (newCell w #[.int .i64 4, .int .i64 14, .int .i64 0, .string ⟨#[]⟩, v] 24 4 _ rfl) d os
        go_enter Tryd.func75, Tryd.ntmps75
        go_wp2_with fail
        generalize w.alloc (.cells #[.int .i64 4, .int .i64 14, .int .i64 0, .string ⟨#[]⟩, v] 24) = w2 at *
        refine wp_region_quiet_below (by kernel_rfl) (by kernel_rfl) ?_
        repeat (quiet_step (fail))
        refine wpQuiet_nil ?_
        intro _ hw'
        obtain ⟨⟨dq, osq⟩, hw''⟩ := hw'
        subst hw''
        go_wp2_with fail
        go_ret2
        exact ⟨by rw [F.out]; rfl, hb2.trans ((below_regrown w2 dq osq).mono hb2.size)⟩
      · have F := Lib.hid (show fldB ⟨4, 14, 0, (c :: r), args⟩ = false by (simp [fldB, exRow, howB]) <;> (intros; omega))
        have hb2 : Below w.heap.size w (w.alloc (.cells #[.int .i64 4, .int .i64 14, .int .i64 0, .string (B (c :: r)), v] 24)) := (Below.refl _ w).alloc (Nat.le_refl _) _
        have k0 := fun d os => cell_regrown (newCell w #[.int .i64 4, .int .i64 14, .int .i64 0, .string (B (c :: r)), v] 24 0 _ rfl) d os
        have k1 := fun d os => cell_regrown (newCell w #[.int .i64 4, .int .i64 14, .int .i64 0, .string (B (c :: r)), v] 24 1 _ rfl) d os
        have k2 := fun d os => cell_regrown (newCell w #[.int .i64 4, .int .i64 14, .int .i64 0, .string (B (c :: r)), v] 24 2 _ rfl) d os
        have k3 := fun d os => cell_regrown (newCell w #[.int .i64 4, .int .i64 14, .int .i64 0, .string (B (c :: r)), v] 24 3 _ rfl) d os
        have k4 := fun d os => cell_regrown (newCell w #[.int .i64 4, .int .i64 14, .int .i64 0, .string (B (c :: r)), v] 24 4 _ rfl) d os
        go_enter Tryd.func75, Tryd.ntmps75
        go_wp2_with fail
        generalize w.alloc (.cells #[.int .i64 4, .int .i64 14, .int .i64 0, .string (B (c :: r)), v] 24) = w2 at *
        refine wp_region_quiet_below (by kernel_rfl) (by kernel_rfl) ?_
        repeat (quiet_step (fail))
        refine wpQuiet_nil ?_
        intro _ hw'
        obtain ⟨⟨dq, osq⟩, hw''⟩ := hw'
        subst hw''
        go_wp2_with fail
        go_ret2
        exact ⟨by rw [F.out]; rfl, hb2.trans ((below_regrown w2 dq osq).mono hb2.size)⟩
    · have h1' : (num == 0) = false := by simpa using h1
      have hx1 : ¬ (0 ≤ num ∧ num ≤ 0) := by omega
      clear h1
      have F := Lib.hid (show fldB ⟨4, 14, num, name, args⟩ = false by (simp [fldB, exRow, howB]) <;> (intros; omega))
      have hb2 : Below w.heap.size w (w.alloc (.cells #[.int .i64 4, .int .i64 14, .int .i64 num, .string (B name), v] 24)) := (Below.refl _ w).alloc (Nat.le_refl _) _
      have k0 := fun d os => cell_regrown (newCell w #[.int .i64 4, .int .i64 14, .int .i64 num, .string (B name), v] 24 0 _ rfl) d os
      have k1 := fun d os => cell_regrown (newCell w #[.int .i64 4, .int .i64 14, .int .i64 num, .string (B name), v] 24 1 _ rfl) d os
      have k2 := fun d os => cell_regrown (newCell w #[.int .i64 4, .int .i64 14, .int .i64 num, .string (B name), v] 24 2 _ rfl) d os
      have k3 := fun d os => cell_regrown (newCell w #[.int .i64 4, .int .i64 14, .int .i64 num, .string (B name), v] 24 3 _ rfl) d os
      have k4 := fun d os => cell_regrown (newCell w #[.int .i64 4, .int .i64 14, .int .i64 num, .string (B name), v] 24 4 _ rfl) d os
      go_enter Tryd.func75, Tryd.ntmps75
      go_wp2_with fail
      generalize w.alloc (.cells #[.int .i64 4, .int .i64 14, .int .i64 num, .string (B name), v] 24) = w2 at *
      refine wp_region_quiet_below (by kernel_rfl) (by kernel_rfl) ?_
      repeat (quiet_step (fail))
      refine wpQuiet_nil ?_
      intro _ hw'
      obtain ⟨⟨dq, osq⟩, hw''⟩ := hw'
      subst hw''
      go_wp2_with fail
      go_ret2
      exact ⟨by rw [F.out]; rfl, hb2.trans ((below_regrown w2 dq osq).mono hb2.size)⟩
  · by_cases h0b : op = 15
    · subst h0b
      clear h0a
      by_cases h1 : num = 0
      · subst h1
        rcases name with _ | ⟨c, r⟩
        · have F := Lib.hid (show fldB ⟨4, 15, 0, [], args⟩ = true by (simp [fldB, exRow, howB]) <;> (intros; omega))
          have hb2 : Below w.heap.size w (w.alloc (.cells #[.int .i64 4, .int .i64 15, .int .i64 0, .string ⟨#[]⟩, v] 24)) := (Below.refl _ w).alloc (Nat.le_refl _) _
          have k0 := fun d os => cell_regrown (newCell w #[.int .i64 4, .int .i64 15, .int .i64 0, .string ⟨#[]⟩, v] 24 0 _ rfl) d os
          have k1 := fun d os => cell_regrown (newCell w #[.int .i64 4, .int .i64 15, .int .i64 0, .string ⟨#[]⟩, v] 24 1 _ rfl) d os
          have k2 := fun d os => cell_regrown (newCell w #[.int .i64 4, .int .i64 15, .int .i64 0, .string ⟨#[]⟩, v] 24 2 _ rfl) d os
          have k3 := fun d os => cell_regrown (newCell w #[.int .i64 4, .int .i64 15, .int .i64 0, .string ⟨#[]⟩, v] 24 3 _ rfl) d os
          have k4 := fun d os => cell_regrown (newCell w #[.int .i64 4, .int .i64 15, .int .i64 0, .string ⟨#[]⟩, v] 24 4 _ rfl) d os
          go_enter Tryd.func75, Tryd.ntmps75
          go_wp2_with fail
          generalize w.alloc (.cells #[.int .i64 4, .int .i64 15, .int .i64 0, .string ⟨#[]⟩, v] 24) = w2 at *
          refine wp_region_quiet_below (by kernel_rfl) (by kernel_rfl) ?_
          repeat (quiet_step (fail))
          refine wpQuiet_nil ?_
          intro _ hw'
          obtain ⟨⟨dq, osq⟩, hw''⟩ := hw'
          subst hw''
          go_wp2_with fail
          go_ret2
          exact ⟨by rw [F.out]; rfl, hb2.trans ((below_regrown w2 dq osq).mono hb2.size)⟩
        · have F := Lib.hid (show fldB ⟨4, 15, 0, (c :: r), args⟩ = false by (simp [fldB, exRow, howB]) <;> (intros; omega))
          have hb2 : Below w.heap.size w (w.alloc (.cells #[.int .i64 4, .int .i64 15, .int .i64 0, .string (B (c :: r)), v] 24)) := (Below.refl _ w).alloc (Nat.le_refl _) _
          have k0 := fun d os => cell_regrown (newCell w #[.int .i64 4, .int .i64 15, .int .i64 0, .string (B (c :: r)), v] 24 0 _ rfl) d os
          have k1 := fun d os => cell_regrown (newCell w #[.int .i64 4, .int .i64 15, .int .i64 0, .string (B (c :: r)), v] 24 1 _ rfl) d os
          have k2 := fun d os => cell_regrown (newCell w #[.int .i64 4, .int .i64 15, .int .i64 0, .string (B (c :: r)), v] 24 2 _ rfl) d os
          have k3 := fun d os => cell_regrown (newCell w #[.int .i64 4, .int .i64 15, .int .i64 0, .string (B (c :: r)), v] 24 3 _ rfl) d os
          have k4 := fun d os => cell_regrown (newCell w #[.int .i64 4, .int .i64 15, .int .i64 0, .string (B (c :: r)), v] 24 4 _ rfl) d os
          go_enter Tryd.func75, Tryd.ntmps75
          go_wp2_with fail
          generalize w.alloc (.cells #[.int .i64 4, .int .i64 15, .int .i64 0, .string (B (c :: r)), v] 24) = w2 at *
          refine wp_region_quiet_below (by kernel_rfl) (by kernel_rfl) ?_
          repeat (quiet_step (fail))
          refine wpQuiet_nil ?_
          intro _ hw'
          obtain ⟨⟨dq, osq⟩, hw''⟩ := hw'
          subst hw''
          go_wp2_with fail
          go_ret2
          exact ⟨by rw [F.out]; rfl, hb2.trans ((below_regrown w2 dq osq).mono hb2.size)⟩
      · have h1' : (num == 0) = false := by simpa using h1
        have hx1 : ¬ (0 ≤ num ∧ num ≤ 0) := by omega
        clear h1
        have F := Lib.hid (show fldB ⟨4, 15, num, name, args⟩ = false by (simp [fldB, exRow, howB]) <;> (intros; omega))
        have hb2 : Below w.heap.size w (w.alloc (.cells #[.int .i64 4, .int .i64 15, .int .i64 num, .string (B name), v] 24)) := (Below.refl _ w).alloc (Nat.le_refl _) _
        have k0 := fun d os => cell_regrown (newCell w #[.int .i64 4, .int .i64 15, .int .i64 num, .string (B name), v] 24 0 _ rfl) d os
        have k1 := fun d os => cell_regrown (newCell w #[.int .i64 4, .int .i64 15, .int .i64 num, .string (B name), v] 24 1 _ rfl) d os
        have k2 := fun d os => cell_regrown (newCell w #[.int .i64 4, .int .i64 15, .int .i64 num, .string (B name), v] 24 2 _ rfl) d os
        have k3 := fun d os => cell_regrown (newCell w #[.int .i64 4, .int .i64 15, .int .i64 num, .string (B name), v] 24 3 _ rfl) d os
        have k4 := fun d os => cell_regrown (newCell w #[.int .i64 4, .int .i64 15, .int .i64 num, .string (B name), v] 24 4 _ rfl) d os
        go_enter Tryd.func75, Tryd.ntmps75
        go_wp2_with fail
        generalize w.alloc (.cells #[.int .i64 4, .int .i64 15, .int .i64 num, .string (B name), v] 24) = w2 at *
        refine wp_region_quiet_below (by kernel_rfl) (by kernel_rfl) ?_
        repeat (quiet_step (fail))
        refine wpQuiet_nil ?_
        intro _ hw'
        obtain ⟨⟨dq, osq⟩, hw''⟩ := hw'
        subst hw''
        go_wp2_with fail
        go_ret2
        exact ⟨by rw [F.out]; rfl, hb2.trans ((below_regrown w2 dq osq).mono hb2.size)⟩
    · have h0a' : (op == 14) = false := by simpa using h0a
      have h0b' : (op == 15) = false := by simpa using h0b
      have hx0 : ¬ (14 ≤ op ∧ op ≤ 15) := by omega
      clear h0a h0b
      have F := Lib.hid (show fldB ⟨4, op, num, name, args⟩ = false by (simp [fldB, exRow, howB]) <;> (intros; omega))
      have hb2 : Below w.heap.size w (w.alloc (.cells #[.int .i64 4, .int .i64 op, .int .i64 num, .string (B name), v] 24)) := (Below.refl _ w).alloc (Nat.le_refl _) _
      have k0 := fun d os => cell_regrown (newCell w #[.int .i64 4, .int .i64 op, .int .i64 num, .string (B name), v] 24 0 _ rfl) d os
      have k1 := fun d os => cell_regrown (newCell w #[.int .i64 4, .int .i64 op, .int .i64 num, .string (B name), v] 24 1 _ rfl) d os
      have k2 := fun d os => cell_regrown (newCell w #[.int .i64 4, .int .i64 op, .int .i64 num, .string (B name), v] 24 2 _ rfl) d os
      have k3 := fun d os => cell_regrown (newCell w #[.int .i64 4, .int .i64 op, .int .i64 num, .string (B name), v] 24 3 _ rfl) d os
      have k4 := fun d os => cell_regrown (newCell w #[.int .i64 4, .int .i64 op, .int .i64 num, .string (B name), v] 24 4 _ rfl) d os
      go_enter Tryd.func75, Tryd.ntmps75
      go_wp2_with fail
      generalize w.alloc (.cells #[.int .i64 4, .int .i64 op, .int .i64 num, .string (B name), v] 24) = w2 at *
      refine wp_region_quiet_below (by kernel_rfl) (by kernel_rfl) ?_
      repeat (quiet_step (fail))
      refine wpQuiet_nil ?_
      intro _ hw'
      obtain ⟨⟨dq, osq⟩, hw''⟩ := hw'
      subst hw''
      go_wp2_with fail
      go_ret2
      exact ⟨by rw [F.out]; rfl, hb2.trans ((below_regrown w2 dq osq).mono hb2.size)⟩

set_option maxHeartbeats 4000000 in
theorem fields_5 (op num : Int) (hub : num ≤ 9223372036854775807) (name : Bytes) (hn : name.length ≤ 9223372036854775807) (args : List Ex) (v : Value) (w : World) :
    Calls Tryd.prog 75 #[.agg #[.int .i64 5, .int .i64 op, .int .i64 num, .string (B name), v]] w fun x w' => x = .returned (.tuple #[.int .i64 2, .bool (fldB ⟨5, op, num, name, args⟩)]) ∧ Below w.heap.size w w' := by
  by_cases h0 : 1 ≤ op
  · by_cases h0b : op ≤ 13
    · by_cases h1 : num = 0
      · subst h1
        rcases name with _ | ⟨c, r⟩
        · have F := Lib.hid (show fldB ⟨5, op, 0, [], args⟩ = true by (simp [fldB, exRow, howB, h0, h0b]) <;> (intros; omega))
          have hb2 : Below w.heap.size w (w.alloc (.cells #[.int .i64 5, .int .i64 op, .int .i64 0, .string ⟨#[]⟩, v] 24)) := (Below.refl _ w).alloc (Nat.le_refl _) _
          have k0 := fun d os => cell_regrown (newCell w #[.int .i64 5, .int .i64 op, .int .i64 0, .string ⟨#[]⟩, v] 24 0 _ rfl) d os
          have k1 := fun d os => cell_regrown (newCell w #[.int .i64 5, .int .i64 op, .int .i64 0, .string ⟨#[]⟩, v] 24 1 _ rfl) d os
          have k2 := fun d os => cell_regrown (newCell w #[.int .i64 5, .int .i64 op, .int .i64 0, .string ⟨#[]⟩, v] 24 2 _ rfl) d os
          have k3 := fun d os => cell_regrown (newCell w #[.int .i64 5, .int .i64 op, .int .i64 0, .string ⟨#[]⟩, v] 24 3 _ rfl) d os
          have k4 := fun d os => cell_regrown (newCell w #[.int .i64 5, .int .i64 op, .int .i64 0, .string ⟨#[]⟩, v] 24 4 _ rfl) d os
          go_enter Tryd.func75, Tryd.ntmps75
          go_wp2_with fail
          generalize w.alloc (.cells #[.int .i64 5, .int .i64 op, .int .i64 0, .string ⟨#[]⟩, v] 24) = w2 at *
          refine wp_region_quiet_below (by kernel_rfl) (by kernel_rfl) ?_
          repeat (quiet_step (fail))
          refine wpQuiet_nil ?_
          intro _ hw'
          obtain ⟨⟨dq, osq⟩, hw''⟩ := hw'
          subst hw''
          go_wp2_with fail
          go_ret2
          exact ⟨by rw [F.out]; rfl, hb2.trans ((below_regrown w2 dq osq).mono hb2.size)⟩
        · have F := Lib.hid (show fldB ⟨5, op, 0, (c :: r), args⟩ = false by (simp [fldB, exRow, howB, h0, h0b]) <;> (intros; omega))
          have hb2 : Below w.heap.size w (w.alloc (.cells #[.int .i64 5, .int .i64 op, .int .i64 0, .string (B (c :: r)), v] 24)) := (Below.refl _ w).alloc (Nat.le_refl _) _
          have k0 := fun d os => cell_regrown (newCell w #[.int .i64 5, .int .i64 op, .int .i64 0, .string (B (c :: r)), v] 24 0 _ rfl) d os
          have k1 := fun d os => cell_regrown (newCell w #[.int .i64 5, .int .i64 op, .int .i64 0, .string (B (c :: r)), v] 24 1 _ rfl) d os
          have k2 := fun d os => cell_regrown (newCell w #[.int .i64 5, .int .i64 op, .int .i64 0, .string (B (c :: r)), v] 24 2 _ rfl) d os
          have k3 := fun d os => cell_regrown (newCell w #[.int .i64 5, .int .i64 op, .int .i64 0, .string (B (c :: r)), v] 24 3 _ rfl) d os
          have k4 := fun d os => cell_regrown (newCell w #[.int .i64 5, .int .i64 op, .int .i64 0, .string (B (c :: r)), v] 24 4 _ rfl) d os
          go_enter Tryd.func75, Tryd.ntmps75
          go_wp2_with fail
          generalize w.alloc (.cells #[.int .i64 5, .int .i64 op, .int .i64 0, .string (B (c :: r)), v] 24) = w2 at *
          refine wp_region_quiet_below (by kernel_rfl) (by kernel_rfl) ?_
          repeat (quiet_step (fail))
          refine wpQuiet_nil ?_
          intro _ hw'
          obtain ⟨⟨dq, osq⟩, hw''⟩ := hw'
          subst hw''
          go_wp2_with fail
          go_ret2
          exact ⟨by rw [F.out]; rfl, hb2.trans ((below_regrown w2 dq osq).mono hb2.size)⟩
      · have h1' : (num == 0) = false := by simpa using h1
        have hx1 : ¬ (0 ≤ num ∧ num ≤ 0) := by omega
        clear h1
        have F := Lib.hid (show fldB ⟨5, op, num, name, args⟩ = false by (simp [fldB, exRow, howB, h0, h0b]) <;> (intros; omega))
        have hb2 : Below w.heap.size w (w.alloc (.cells #[.int .i64 5, .int .i64 op, .int .i64 num, .string (B name), v] 24)) := (Below.refl _ w).alloc (Nat.le_refl _) _
        have k0 := fun d os => cell_regrown (newCell w #[.int .i64 5, .int .i64 op, .int .i64 num, .string (B name), v] 24 0 _ rfl) d os
        have k1 := fun d os => cell_regrown (newCell w #[.int .i64 5, .int .i64 op, .int .i64 num, .string (B name), v] 24 1 _ rfl) d os
        have k2 := fun d os => cell_regrown (newCell w #[.int .i64 5, .int .i64 op, .int .i64 num, .string (B name), v] 24 2 _ rfl) d os
        have k3 := fun d os => cell_regrown (newCell w #[.int .i64 5, .int .i64 op, .int .i64 num, .string (B name), v] 24 3 _ rfl) d os
        have k4 := fun d os => cell_regrown (newCell w #[.int .i64 5, .int .i64 op, .int .i64 num, .string (B name), v] 24 4 _ rfl) d os
        go_enter Tryd.func75, Tryd.ntmps75
        go_wp2_with fail
        generalize w.alloc (.cells #[.int .i64 5, .int .i64 op, .int .i64 num, .string (B name), v] 24) = w2 at *
        refine wp_region_quiet_below (by kernel_rfl) (by kernel_rfl) ?_
        repeat (quiet_step (fail))
        refine wpQuiet_nil ?_
        intro _ hw'
        obtain ⟨⟨dq, osq⟩, hw''⟩ := hw'
        subst hw''
        go_wp2_with fail
        go_ret2
        exact ⟨by rw [F.out]; rfl, hb2.trans ((below_regrown w2 dq osq).mono hb2.size)⟩
    · have h0' : decide (op ≤ 13) = false := by simpa using h0b
      have F := Lib.hid (show fldB ⟨5, op, num, name, args⟩ = false by (simp [fldB, exRow, howB, h0, h0b]) <;> (intros; omega))
      have hb2 : Below w.heap.size w (w.alloc (.cells #[.int .i64 5, .int .i64 op, .int .i64 num, .string (B name), v] 24)) := (Below.refl _ w).alloc (Nat.le_refl _) _
      have k0 := fun d os => cell_regrown (newCell w #[.int .i64 5, .int .i64 op, .int .i64 num, .string (B name), v] 24 0 _ rfl) d os
      have k1 := fun d os => cell_regrown (newCell w #[.int .i64 5, .int .i64 op, .int .i64 num, .string (B name), v] 24 1 _ rfl) d os
      have k2 := fun d os => cell_regrown (newCell w #[.int .i64 5, .int .i64 op, .int .i64 num, .string (B name), v] 24 2 _ rfl) d os
      have k3 := fun d os => cell_regrown (newCell w #[.int .i64 5, .int .i64 op, .int .i64 num, .string (B name), v] 24 3 _ rfl) d os
      have k4 := fun d os => cell_regrown (newCell w #[.int .i64 5, .int .i64 op, .int .i64 num, .string (B name), v] 24 4 _ rfl) d os
      go_enter Tryd.func75, Tryd.ntmps75
      go_wp2_with fail
      generalize w.alloc (.cells #[.int .i64 5, .int .i64 op, .int .i64 num, .string (B name), v] 24) = w2 at *
      refine wp_region_quiet_below (by kernel_rfl) (by kernel_rfl) ?_
      repeat (quiet_step (fail))
      refine wpQuiet_nil ?_
      intro _ hw'
      obtain ⟨⟨dq, osq⟩, hw''⟩ := hw'
      subst hw''
      go_wp2_with fail
      go_ret2
      exact ⟨by rw [F.out]; rfl, hb2.trans ((below_regrown w2 dq osq).mono hb2.size)⟩
  · have h0' : decide (1 ≤ op) = false := by simpa using h0
    have F := Lib.hid (show fldB ⟨5, op, num, name, args⟩ = false by (simp [fldB, exRow, howB, h0]) <;> (intros; omega))
    have hb2 : Below w.heap.size w (w.alloc (.cells #[.int .i64 5, .int .i64 op, .int .i64 num, .string (B name), v] 24)) := (Below.refl _ w).alloc (Nat.le_refl _) _
    have k0 := fun d os => cell_regrown (newCell w #[.int .i64 5, .int .i64 op, .int .i64 num, .string (B name), v] 24 0 _ rfl) d os
    have k1 := fun d os => cell_regrown (newCell w #[.int .i64 5, .int .i64 op, .int .i64 num, .string (B name), v] 24 1 _ rfl) d os
    have k2 := fun d os => cell_regrown (newCell w #[.int .i64 5, .int .i64 op, .int .i64 num, .string (B name), v] 24 2 _ rfl) d os
    have k3 := fun d os => cell_regrown (newCell w #[.int .i64 5, .int .i64 op, .int .i64 num, .string (B name), v] 24 3 _ rfl) d os
    have k4 := fun d os => cell_regrown (newCell w #[.int .i64 5, .int .i64 op, .int .i64 num, .string (B name), v] 24 4 _ rfl) d os
    go_enter Tryd.func75, Tryd.ntmps75
    go_wp2_with fail
    generalize w.alloc (.cells #[.int .i64 5, .int .i64 op, .int .i64 num, .string (B name), v] 24) = w2 at *
    refine wp_region_quiet_below (by kernel_rfl) (by kernel_rfl) ?_
    repeat (quiet_step (fail))
    refine wpQuiet_nil ?_
    intro _ hw'
    obtain ⟨⟨dq, osq⟩, hw''⟩ := hw'
    subst hw''
    go_wp2_with fail
    go_ret2
    exact ⟨by rw [F.out]; rfl, hb2.trans ((below_regrown w2 dq osq).mono hb2.size)⟩
end Go.Proofs.YthiilnhiihfknaaDoor
