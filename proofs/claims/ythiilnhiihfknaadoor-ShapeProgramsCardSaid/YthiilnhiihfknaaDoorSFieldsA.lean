/-
  The reference's fields: its contract. Written by gen3_fields.py.
-/
import Derived.Test.YthiilnhiihfknaaDoorSFieldsD
import Derived.Lib.QuietBelow
namespace Go.Proofs.YthiilnhiihfknaaDoor
open Go Go.RowKit Go.Sort


set_option maxHeartbeats 4000000 in
theorem fields_1 (op num : Int) (hub : num ≤ 9223372036854775807) (name : Bytes) (hn : name.length ≤ 9223372036854775807) (args : List Ex) (v : Value) (w : World) :
    Calls Tryd.prog 75 #[.agg #[.int .i64 1, .int .i64 op, .int .i64 num, .string (B name), v]] w fun x w' => x = .returned (.tuple #[.int .i64 0, .bool (fldB ⟨1, op, num, name, args⟩)]) ∧ Below w.heap.size w w' := by
  by_cases h0 : 0 ≤ num
  · by_cases h1 : op = 0
    · subst h1
      rcases name with _ | ⟨c, r⟩
      · have F := Lib.hid (show fldB ⟨1, 0, num, [], args⟩ = true by (simp [fldB, exRow, howB, h0, hub]) <;> (intros; omega))
        have hb2 : Below w.heap.size w (w.alloc (.cells #[.int .i64 1, .int .i64 0, .int .i64 num, .string ⟨#[]⟩, v] 24)) := (Below.refl _ w).alloc (Nat.le_refl _) _
        have k0 := fun d os => cell_regrown (newCell w #[.int .i64 1, .int .i64 0, .int .i64 num, .string ⟨#[]⟩, v] 24 0 _ rfl) d os
        have k1 := fun d os => cell_regrown (newCell w #[.int .i64 1, .int .i64 0, .int .i64 num, .string ⟨#[]⟩, v] 24 1 _ rfl) d os
        have k2 := fun d os => cell_regrown (newCell w #[.int .i64 1, .int .i64 0, .int .i64 num, .string ⟨#[]⟩, v] 24 2 _ rfl) d os
        have k3 := fun d os => cell_regrown (newCell w #[.int .i64 1, .int .i64 0, .int .i64 num, .string ⟨#[]⟩, v] 24 3 _ rfl) d os
        have k4 := fun d os => cell_regrown (newCell w #[.int .i64 1, .int .i64 0, .int .i64 num, .string ⟨#[]⟩, v] 24 4 _ rfl) d os
        go_enter Tryd.func75, Tryd.ntmps75
        go_wp2_with fail
        generalize w.alloc (.cells #[.int .i64 1, .int .i64 0, .int .i64 num, .string ⟨#[]⟩, v] 24) = w2 at *
        refine wp_region_quiet_below (by kernel_rfl) (by kernel_rfl) ?_
        repeat (quiet_step (fail))
        refine wpQuiet_nil ?_
        intro _ hw'
        obtain ⟨⟨dq, osq⟩, hw''⟩ := hw'
        subst hw''
        go_wp2_with fail
        go_ret2
        exact ⟨by rw [F.out]; rfl, hb2.trans ((below_regrown w2 dq osq).mono hb2.size)⟩
      · have F := Lib.hid (show fldB ⟨1, 0, num, (c :: r), args⟩ = false by (simp [fldB, exRow, howB, h0, hub]) <;> (intros; omega))
        have hb2 : Below w.heap.size w (w.alloc (.cells #[.int .i64 1, .int .i64 0, .int .i64 num, .string (B (c :: r)), v] 24)) := (Below.refl _ w).alloc (Nat.le_refl _) _
        have k0 := fun d os => cell_regrown (newCell w #[.int .i64 1, .int .i64 0, .int .i64 num, .string (B (c :: r)), v] 24 0 _ rfl) d os
        have k1 := fun d os => cell_regrown (newCell w #[.int .i64 1, .int .i64 0, .int .i64 num, .string (B (c :: r)), v] 24 1 _ rfl) d os
        have k2 := fun d os => cell_regrown (newCell w #[.int .i64 1, .int .i64 0, .int .i64 num, .string (B (c :: r)), v] 24 2 _ rfl) d os
        have k3 := fun d os => cell_regrown (newCell w #[.int .i64 1, .int .i64 0, .int .i64 num, .string (B (c :: r)), v] 24 3 _ rfl) d os
        have k4 := fun d os => cell_regrown (newCell w #[.int .i64 1, .int .i64 0, .int .i64 num, .string (B (c :: r)), v] 24 4 _ rfl) d os
        go_enter Tryd.func75, Tryd.ntmps75
        go_wp2_with fail
        generalize w.alloc (.cells #[.int .i64 1, .int .i64 0, .int .i64 num, .string (B (c :: r)), v] 24) = w2 at *
        refine wp_region_quiet_below (by kernel_rfl) (by kernel_rfl) ?_
        repeat (quiet_step (fail))
        refine wpQuiet_nil ?_
        intro _ hw'
        obtain ⟨⟨dq, osq⟩, hw''⟩ := hw'
        subst hw''
        go_wp2_with fail
        go_ret2
        exact ⟨by rw [F.out]; rfl, hb2.trans ((below_regrown w2 dq osq).mono hb2.size)⟩
    · have h1' : (op == 0) = false := by simpa using h1
      have hx1 : ¬ (0 ≤ op ∧ op ≤ 0) := by omega
      clear h1
      have F := Lib.hid (show fldB ⟨1, op, num, name, args⟩ = false by (simp [fldB, exRow, howB, h0, hub]) <;> (intros; omega))
      have hb2 : Below w.heap.size w (w.alloc (.cells #[.int .i64 1, .int .i64 op, .int .i64 num, .string (B name), v] 24)) := (Below.refl _ w).alloc (Nat.le_refl _) _
      have k0 := fun d os => cell_regrown (newCell w #[.int .i64 1, .int .i64 op, .int .i64 num, .string (B name), v] 24 0 _ rfl) d os
      have k1 := fun d os => cell_regrown (newCell w #[.int .i64 1, .int .i64 op, .int .i64 num, .string (B name), v] 24 1 _ rfl) d os
      have k2 := fun d os => cell_regrown (newCell w #[.int .i64 1, .int .i64 op, .int .i64 num, .string (B name), v] 24 2 _ rfl) d os
      have k3 := fun d os => cell_regrown (newCell w #[.int .i64 1, .int .i64 op, .int .i64 num, .string (B name), v] 24 3 _ rfl) d os
      have k4 := fun d os => cell_regrown (newCell w #[.int .i64 1, .int .i64 op, .int .i64 num, .string (B name), v] 24 4 _ rfl) d os
      go_enter Tryd.func75, Tryd.ntmps75
      go_wp2_with fail
      generalize w.alloc (.cells #[.int .i64 1, .int .i64 op, .int .i64 num, .string (B name), v] 24) = w2 at *
      refine wp_region_quiet_below (by kernel_rfl) (by kernel_rfl) ?_
      repeat (quiet_step (fail))
      refine wpQuiet_nil ?_
      intro _ hw'
      obtain ⟨⟨dq, osq⟩, hw''⟩ := hw'
      subst hw''
      go_wp2_with fail
      go_ret2
      exact ⟨by rw [F.out]; rfl, hb2.trans ((below_regrown w2 dq osq).mono hb2.size)⟩
  · have h0' : decide (0 ≤ num) = false := by simpa using h0
    have F := Lib.hid (show fldB ⟨1, op, num, name, args⟩ = false by (simp [fldB, exRow, howB, h0]) <;> (intros; omega))
    have hb2 : Below w.heap.size w (w.alloc (.cells #[.int .i64 1, .int .i64 op, .int .i64 num, .string (B name), v] 24)) := (Below.refl _ w).alloc (Nat.le_refl _) _
    have k0 := fun d os => cell_regrown (newCell w #[.int .i64 1, .int .i64 op, .int .i64 num, .string (B name), v] 24 0 _ rfl) d os
    have k1 := fun d os => cell_regrown (newCell w #[.int .i64 1, .int .i64 op, .int .i64 num, .string (B name), v] 24 1 _ rfl) d os
    have k2 := fun d os => cell_regrown (newCell w #[.int .i64 1, .int .i64 op, .int .i64 num, .string (B name), v] 24 2 _ rfl) d os
    have k3 := fun d os => cell_regrown (newCell w #[.int .i64 1, .int .i64 op, .int .i64 num, .string (B name), v] 24 3 _ rfl) d os
    have k4 := fun d os => cell_regrown (newCell w #[.int .i64 1, .int .i64 op, .int .i64 num, .string (B name), v] 24 4 _ rfl) d os
    go_enter Tryd.func75, Tryd.ntmps75
    go_wp2_with fail
    generalize w.alloc (.cells #[.int .i64 1, .int .i64 op, .int .i64 num, .string (B name), v] 24) = w2 at *
    refine wp_region_quiet_below (by kernel_rfl) (by kernel_rfl) ?_
    repeat (quiet_step (fail))
    refine wpQuiet_nil ?_
    intro _ hw'
    obtain ⟨⟨dq, osq⟩, hw''⟩ := hw'
    subst hw''
    go_wp2_with fail
    go_ret2
    exact ⟨by rw [F.out]; rfl, hb2.trans ((below_regrown w2 dq osq).mono hb2.size)⟩

set_option maxHeartbeats 4000000 in
theorem fields_2 (op num : Int) (hub : num ≤ 9223372036854775807) (name : Bytes) (hn : name.length ≤ 9223372036854775807) (args : List Ex) (v : Value) (w : World) :
    Calls Tryd.prog 75 #[.agg #[.int .i64 2, .int .i64 op, .int .i64 num, .string (B name), v]] w fun x w' => x = .returned (.tuple #[.int .i64 0, .bool (fldB ⟨2, op, num, name, args⟩)]) ∧ Below w.heap.size w w' := by
  by_cases h0a : num = 0
  · subst h0a
    by_cases h1 : op = 0
    · subst h1
      rcases name with _ | ⟨c, r⟩
      · have F := Lib.hid (show fldB ⟨2, 0, 0, [], args⟩ = true by (simp [fldB, exRow, howB]) <;> (intros; omega))
        have hb2 : Below w.heap.size w (w.alloc (.cells #[.int .i64 2, .int .i64 0, .int .i64 0, .string ⟨#[]⟩, v] 24)) := (Below.refl _ w).alloc (Nat.le_refl _) _
        have k0 := fun d os => cell_regrown (newCell w #[.int .i64 2, .int .i64 0, .int .i64 0, .string ⟨#[]⟩, v] 24 0 _ rfl) d os
        have k1 := fun d os => cell_regrown (newCell w #[.int .i64 2, .int .i64 0, .int .i64 0, .string ⟨#[]⟩, v] 24 1 _ rfl) d os
        have k2 := fun d os => cell_regrown (newCell w #[.int .i64 2, .int .i64 0, .int .i64 0, .string ⟨#[]⟩, v] 24 2 _ rfl) d os
        have k3 := fun d os => cell_regrown (newCell w #[.int .i64 2, .int .i64 0, .int .i64 0, .string ⟨#[]⟩, v] 24 3 _ rfl) d os
        have k4 := fun d os => cell_regrown (newCell w #[.int .i64 2, .int .i64 0, .int .i64 0, .string ⟨#[]⟩, v] 24 4 _ rfl) d os
        go_enter Tryd.func75, Tryd.ntmps75
        go_wp2_with fail
        generalize w.alloc (.cells #[.int .i64 2, .int .i64 0, .int .i64 0, .string ⟨#[]⟩, v] 24) = w2 at *
        refine wp_region_quiet_below (by kernel_rfl) (by kernel_rfl) ?_
        repeat (quiet_step (fail))
        refine wpQuiet_nil ?_
        intro _ hw'
        obtain ⟨⟨dq, osq⟩, hw''⟩ := hw'
        subst hw''
        go_wp2_with fail
        go_ret2
        exact ⟨by rw [F.out]; rfl, hb2.trans ((below_regrown w2 dq osq).mono hb2.size)⟩
      · have F := Lib.hid (show fldB ⟨2, 0, 0, (c :: r), args⟩ = false by (simp [fldB, exRow, howB]) <;> (intros; omega))
        have hb2 : Below w.heap.size w (w.alloc (.cells #[.int .i64 2, .int .i64 0, .int .i64 0, .string (B (c :: r)), v] 24)) := (Below.refl _ w).alloc (Nat.le_refl _) _
        have k0 := fun d os => cell_regrown (newCell w #[.int .i64 2, .int .i64 0, .int .i64 0, .string (B (c :: r)), v] 24 0 _ rfl) d os
        have k1 := fun d os => cell_regrown (newCell w #[.int .i64 2, .int .i64 0, .int .i64 0, .string (B (c :: r)), v] 24 1 _ rfl) d os
        have k2 := fun d os => cell_regrown (newCell w #[.int .i64 2, .int .i64 0, .int .i64 0, .string (B (c :: r)), v] 24 2 _ rfl) d os
        have k3 := fun d os => cell_regrown (newCell w #[.int .i64 2, .int .i64 0, .int .i64 0, .string (B (c :: r)), v] 24 3 _ rfl) d os
        have k4 := fun d os => cell_regrown (newCell w #[.int .i64 2, .int .i64 0, .int .i64 0, .string (B (c :: r)), v] 24 4 _ rfl) d os
        go_enter Tryd.func75, Tryd.ntmps75
        go_wp2_with fail
        generalize w.alloc (.cells #[.int .i64 2, .int .i64 0, .int .i64 0, .string (B (c :: r)), v] 24) = w2 at *
        refine wp_region_quiet_below (by kernel_rfl) (by kernel_rfl) ?_
        repeat (quiet_step (fail))
        refine wpQuiet_nil ?_
        intro _ hw'
        obtain ⟨⟨dq, osq⟩, hw''⟩ := hw'
        subst hw''
        go_wp2_with fail
        go_ret2
        exact ⟨by rw [F.out]; rfl, hb2.trans ((below_regrown w2 dq osq).mono hb2.size)⟩
    · have h1' : (op == 0) = false := by simpa using h1
      have hx1 : ¬ (0 ≤ op ∧ op ≤ 0) := by omega
      clear h1
      have F := Lib.hid (show fldB ⟨2, op, 0, name, args⟩ = false by (simp [fldB, exRow, howB]) <;> (intros; omega))
      have hb2 : Below w.heap.size w (w.alloc (.cells #[.int .i64 2, .int .i64 op, .int .i64 0, .string (B name), v] 24)) := (Below.refl _ w).alloc (Nat.le_refl _) _
      have k0 := fun d os => cell_regrown (newCell w #[.int .i64 2, .int .i64 op, .int .i64 0, .string (B name), v] 24 0 _ rfl) d os
      have k1 := fun d os => cell_regrown (newCell w #[.int .i64 2, .int .i64 op, .int .i64 0, .string (B name), v] 24 1 _ rfl) d os
      have k2 := fun d os => cell_regrown (newCell w #[.int .i64 2, .int .i64 op, .int .i64 0, .string (B name), v] 24 2 _ rfl) d os
      have k3 := fun d os => cell_regrown (newCell w #[.int .i64 2, .int .i64 op, .int .i64 0, .string (B name), v] 24 3 _ rfl) d os
      have k4 := fun d os => cell_regrown (newCell w #[.int .i64 2, .int .i64 op, .int .i64 0, .string (B name), v] 24 4 _ rfl) d os
      go_enter Tryd.func75, Tryd.ntmps75
      go_wp2_with fail
      generalize w.alloc (.cells #[.int .i64 2, .int .i64 op, .int .i64 0, .string (B name), v] 24) = w2 at *
      refine wp_region_quiet_below (by kernel_rfl) (by kernel_rfl) ?_
      repeat (quiet_step (fail))
      refine wpQuiet_nil ?_
      intro _ hw'
      obtain ⟨⟨dq, osq⟩, hw''⟩ := hw'
      subst hw''
      go_wp2_with fail
      go_ret2
      exact ⟨by rw [F.out]; rfl, hb2.trans ((below_regrown w2 dq osq).mono hb2.size)⟩
  · by_cases h0b : num = 1
    · subst h0b
      clear h0a
      by_cases h1 : op = 0
      · subst h1
        rcases name with _ | ⟨c, r⟩
        · have F := Lib.hid (show fldB ⟨2, 0, 1, [], args⟩ = true by (simp [fldB, exRow, howB]) <;> (intros; omega))
          have hb2 : Below w.heap.size w (w.alloc (.cells #[.int .i64 2, .int .i64 0, .int .i64 1, .string ⟨#[]⟩, v] 24)) := (Below.refl _ w).alloc (Nat.le_refl _) _
          have k0 := fun d os => cell_regrown (newCell w #[.int .i64 2, .int .i64 0, .int .i64 1, .string ⟨#[]⟩, v] 24 0 _ rfl) d os
          have k1 := fun d os => cell_regrown (newCell w #[.int .i64 2, .int .i64 0, .int .i64 1, .string ⟨#[]⟩, v] 24 1 _ rfl) d os
          have k2 := fun d os => cell_regrown (newCell w #[.int .i64 2, .int .i64 0, .int .i64 1, .string ⟨#[]⟩, v] 24 2 _ rfl) d os
          have k3 := fun d os => cell_regrown (newCell w #[.int .i64 2, .int .i64 0, .int .i64 1, .string ⟨#[]⟩, v] 24 3 _ rfl) d os
          have k4 := fun d os => cell_regrown (newCell w #[.int .i64 2, .int .i64 0, .int .i64 1, .string ⟨#[]⟩, v] 24 4 _ rfl) d os
          go_enter Tryd.func75, Tryd.ntmps75
          go_wp2_with fail
          generalize w.alloc (.cells #[.int .i64 2, .int .i64 0, .int .i64 1, .string ⟨#[]⟩, v] 24) = w2 at *
          refine wp_region_quiet_below (by kernel_rfl) (by kernel_rfl) ?_
          repeat (quiet_step (fail))
          refine wpQuiet_nil ?_
          intro _ hw'
          obtain ⟨⟨dq, osq⟩, hw''⟩ := hw'
          subst hw''
          go_wp2_with fail
          go_ret2
          exact ⟨by rw [F.out]; rfl, hb2.trans ((below_regrown w2 dq osq).mono hb2.size)⟩
        · have F := Lib.hid (show fldB ⟨2, 0, 1, (c :: r), args⟩ = false by (simp [fldB, exRow, howB]) <;> (intros; omega))
          have hb2 : Below w.heap.size w (w.alloc (.cells #[.int .i64 2, .int .i64 0, .int .i64 1, .string (B (c :: r)), v] 24)) := (Below.refl _ w).alloc (Nat.le_refl _) _
          have k0 := fun d os => cell_regrown (newCell w #[.int .i64 2, .int .i64 0, .int .i64 1, .string (B (c :: r)), v] 24 0 _ rfl) d os
          have k1 := fun d os => cell_regrown (newCell w #[.int .i64 2, .int .i64 0, .int .i64 1, .string (B (c :: r)), v] 24 1 _ rfl) d os
          have k2 := fun d os => cell_regrown (newCell w #[.int .i64 2, .int .i64 0, .int .i64 1, .string (B (c :: r)), v] 24 2 _ rfl) d os
          have k3 := fun d os => cell_regrown (newCell w #[.int .i64 2, .int .i64 0, .int .i64 1, .string (B (c :: r)), v] 24 3 _ rfl) d os
          have k4 := fun d os => cell_regrown (newCell w #[.int .i64 2, .int .i64 0, .int .i64 1, .string (B (c :: r)), v] 24 4 _ rfl) d os
          go_enter Tryd.func75, Tryd.ntmps75
          go_wp2_with fail
          generalize w.alloc (.cells #[.int .i64 2, .int .i64 0, .int .i64 1, .string (B (c :: r)), v] 24) = w2 at *
          refine wp_region_quiet_below (by kernel_rfl) (by kernel_rfl) ?_
          repeat (quiet_step (fail))
          refine wpQuiet_nil ?_
          intro _ hw'
          obtain ⟨⟨dq, osq⟩, hw''⟩ := hw'
          subst hw''
          go_wp2_with fail
          go_ret2
          exact ⟨by rw [F.out]; rfl, hb2.trans ((below_regrown w2 dq osq).mono hb2.size)⟩
      · have h1' : (op == 0) = false := by simpa using h1
        have hx1 : ¬ (0 ≤ op ∧ op ≤ 0) := by omega
        clear h1
        have F := Lib.hid (show fldB ⟨2, op, 1, name, args⟩ = false by (simp [fldB, exRow, howB]) <;> (intros; omega))
        have hb2 : Below w.heap.size w (w.alloc (.cells #[.int .i64 2, .int .i64 op, .int .i64 1, .string (B name), v] 24)) := (Below.refl _ w).alloc (Nat.le_refl _) _
        have k0 := fun d os => cell_regrown (newCell w #[.int .i64 2, .int .i64 op, .int .i64 1, .string (B name), v] 24 0 _ rfl) d os
        have k1 := fun d os => cell_regrown (newCell w #[.int .i64 2, .int .i64 op, .int .i64 1, .string (B name), v] 24 1 _ rfl) d os
        have k2 := fun d os => cell_regrown (newCell w #[.int .i64 2, .int .i64 op, .int .i64 1, .string (B name), v] 24 2 _ rfl) d os
        have k3 := fun d os => cell_regrown (newCell w #[.int .i64 2, .int .i64 op, .int .i64 1, .string (B name), v] 24 3 _ rfl) d os
        have k4 := fun d os => cell_regrown (newCell w #[.int .i64 2, .int .i64 op, .int .i64 1, .string (B name), v] 24 4 _ rfl) d os
        go_enter Tryd.func75, Tryd.ntmps75
        go_wp2_with fail
        generalize w.alloc (.cells #[.int .i64 2, .int .i64 op, .int .i64 1, .string (B name), v] 24) = w2 at *
        refine wp_region_quiet_below (by kernel_rfl) (by kernel_rfl) ?_
        repeat (quiet_step (fail))
        refine wpQuiet_nil ?_
        intro _ hw'
        obtain ⟨⟨dq, osq⟩, hw''⟩ := hw'
        subst hw''
        go_wp2_with fail
        go_ret2
        exact ⟨by rw [F.out]; rfl, hb2.trans ((below_regrown w2 dq osq).mono hb2.size)⟩
    · have h0a' : (num == 0) = false := by simpa using h0a
      have h0b' : (num == 1) = false := by simpa using h0b
      have hx0 : ¬ (0 ≤ num ∧ num ≤ 1) := by omega
      clear h0a h0b
      have F := Lib.hid (show fldB ⟨2, op, num, name, args⟩ = false by (simp [fldB, exRow, howB]) <;> (intros; omega))
      have hb2 : Below w.heap.size w (w.alloc (.cells #[.int .i64 2, .int .i64 op, .int .i64 num, .string (B name), v] 24)) := (Below.refl _ w).alloc (Nat.le_refl _) _
      have k0 := fun d os => cell_regrown (newCell w #[.int .i64 2, .int .i64 op, .int .i64 num, .string (B name), v] 24 0 _ rfl) d os
      have k1 := fun d os => cell_regrown (newCell w #[.int .i64 2, .int .i64 op, .int .i64 num, .string (B name), v] 24 1 _ rfl) d os
      have k2 := fun d os => cell_regrown (newCell w #[.int .i64 2, .int .i64 op, .int .i64 num, .string (B name), v] 24 2 _ rfl) d os
      have k3 := fun d os => cell_regrown (newCell w #[.int .i64 2, .int .i64 op, .int .i64 num, .string (B name), v] 24 3 _ rfl) d os
      have k4 := fun d os => cell_regrown (newCell w #[.int .i64 2, .int .i64 op, .int .i64 num, .string (B name), v] 24 4 _ rfl) d os
      go_enter Tryd.func75, Tryd.ntmps75
      go_wp2_with fail
      generalize w.alloc (.cells #[.int .i64 2, .int .i64 op, .int .i64 num, .string (B name), v] 24) = w2 at *
      refine wp_region_quiet_below (by kernel_rfl) (by kernel_rfl) ?_
      repeat (quiet_step (fail))
      refine wpQuiet_nil ?_
      intro _ hw'
      obtain ⟨⟨dq, osq⟩, hw''⟩ := hw'
      subst hw''
      go_wp2_with fail
      go_ret2
      exact ⟨by rw [F.out]; rfl, hb2.trans ((below_regrown w2 dq osq).mono hb2.size)⟩

set_option maxHeartbeats 4000000 in
theorem fields_3 (op num : Int) (hub : num ≤ 9223372036854775807) (name : Bytes) (hn : name.length ≤ 9223372036854775807) (args : List Ex) (v : Value) (w : World) :
    Calls Tryd.prog 75 #[.agg #[.int .i64 3, .int .i64 op, .int .i64 num, .string (B name), v]] w fun x w' => x = .returned (.tuple #[.int .i64 0, .bool (fldB ⟨3, op, num, name, args⟩)]) ∧ Below w.heap.size w w' := by
  by_cases hname : nameB name = true
  · have hne : name ≠ [] := by rintro rfl; simp [nameB] at hname
    by_cases h1 : op = 0
    · subst h1
      by_cases h2 : num = 0
      · subst h2
        have F := Lib.hid (show fldB ⟨3, 0, 0, name, args⟩ = true by (simp [fldB, exRow, howB, hname, hne]) <;> (intros; omega))
        have hb2 : Below w.heap.size w (w.alloc (.cells #[.int .i64 3, .int .i64 0, .int .i64 0, .string (B name), v] 24)) := (Below.refl _ w).alloc (Nat.le_refl _) _
        have k0 := fun d os => cell_regrown (newCell w #[.int .i64 3, .int .i64 0, .int .i64 0, .string (B name), v] 24 0 _ rfl) d os
        have k1 := fun d os => cell_regrown (newCell w #[.int .i64 3, .int .i64 0, .int .i64 0, .string (B name), v] 24 1 _ rfl) d os
        have k2 := fun d os => cell_regrown (newCell w #[.int .i64 3, .int .i64 0, .int .i64 0, .string (B name), v] 24 2 _ rfl) d os
        have k3 := fun d os => cell_regrown (newCell w #[.int .i64 3, .int .i64 0, .int .i64 0, .string (B name), v] 24 3 _ rfl) d os
        have k4 := fun d os => cell_regrown (newCell w #[.int .i64 3, .int .i64 0, .int .i64 0, .string (B name), v] 24 4 _ rfl) d os
        have cN := fun d os => Calls.regrown_of (d := d) (os := os) (refName_calls name hn (grow (redrawn (w.alloc (.cells #[.int .i64 3, .int .i64 0, .int .i64 0, .string (B name), v] 24)) d) os))
        rw [hname] at cN
        go_enter Tryd.func75, Tryd.ntmps75
        go_wp2_with fail
        generalize w.alloc (.cells #[.int .i64 3, .int .i64 0, .int .i64 0, .string (B name), v] 24) = w2 at *
        refine wp_region_quiet_below (by kernel_rfl) (by kernel_rfl) ?_
        repeat (quiet_step (exact cN _ _))
        refine wpQuiet_nil ?_
        intro _ hw'
        obtain ⟨⟨dq, osq⟩, hw''⟩ := hw'
        subst hw''
        go_wp2_with fail
        go_ret2
        exact ⟨by rw [F.out]; rfl, hb2.trans ((below_regrown w2 dq osq).mono hb2.size)⟩
      · have h2' : (num == 0) = false := by simpa using h2
        have hx2 : ¬ (0 ≤ num ∧ num ≤ 0) := by omega
        clear h2
        have F := Lib.hid (show fldB ⟨3, 0, num, name, args⟩ = false by (simp [fldB, exRow, howB, hname, hne]) <;> (intros; omega))
        have hb2 : Below w.heap.size w (w.alloc (.cells #[.int .i64 3, .int .i64 0, .int .i64 num, .string (B name), v] 24)) := (Below.refl _ w).alloc (Nat.le_refl _) _
        have k0 := fun d os => cell_regrown (newCell w #[.int .i64 3, .int .i64 0, .int .i64 num, .string (B name), v] 24 0 _ rfl) d os
        have k1 := fun d os => cell_regrown (newCell w #[.int .i64 3, .int .i64 0, .int .i64 num, .string (B name), v] 24 1 _ rfl) d os
        have k2 := fun d os => cell_regrown (newCell w #[.int .i64 3, .int .i64 0, .int .i64 num, .string (B name), v] 24 2 _ rfl) d os
        have k3 := fun d os => cell_regrown (newCell w #[.int .i64 3, .int .i64 0, .int .i64 num, .string (B name), v] 24 3 _ rfl) d os
        have k4 := fun d os => cell_regrown (newCell w #[.int .i64 3, .int .i64 0, .int .i64 num, .string (B name), v] 24 4 _ rfl) d os
        have cN := fun d os => Calls.regrown_of (d := d) (os := os) (refName_calls name hn (grow (redrawn (w.alloc (.cells #[.int .i64 3, .int .i64 0, .int .i64 num, .string (B name), v] 24)) d) os))
        rw [hname] at cN
        go_enter Tryd.func75, Tryd.ntmps75
        go_wp2_with fail
        generalize w.alloc (.cells #[.int .i64 3, .int .i64 0, .int .i64 num, .string (B name), v] 24) = w2 at *
        refine wp_region_quiet_below (by kernel_rfl) (by kernel_rfl) ?_
        repeat (quiet_step (exact cN _ _))
        refine wpQuiet_nil ?_
        intro _ hw'
        obtain ⟨⟨dq, osq⟩, hw''⟩ := hw'
        subst hw''
        go_wp2_with fail
        go_ret2
        exact ⟨by rw [F.out]; rfl, hb2.trans ((below_regrown w2 dq osq).mono hb2.size)⟩
    · have h1' : (op == 0) = false := by simpa using h1
      have hx1 : ¬ (0 ≤ op ∧ op ≤ 0) := by omega
      clear h1
      have F := Lib.hid (show fldB ⟨3, op, num, name, args⟩ = false by (simp [fldB, exRow, howB, hname, hne]) <;> (intros; omega))
      have hb2 : Below w.heap.size w (w.alloc (.cells #[.int .i64 3, .int .i64 op, .int .i64 num, .string (B name), v] 24)) := (Below.refl _ w).alloc (Nat.le_refl _) _
      have k0 := fun d os => cell_regrown (newCell w #[.int .i64 3, .int .i64 op, .int .i64 num, .string (B name), v] 24 0 _ rfl) d os
      have k1 := fun d os => cell_regrown (newCell w #[.int .i64 3, .int .i64 op, .int .i64 num, .string (B name), v] 24 1 _ rfl) d os
      have k2 := fun d os => cell_regrown (newCell w #[.int .i64 3, .int .i64 op, .int .i64 num, .string (B name), v] 24 2 _ rfl) d os
      have k3 := fun d os => cell_regrown (newCell w #[.int .i64 3, .int .i64 op, .int .i64 num, .string (B name), v] 24 3 _ rfl) d os
      have k4 := fun d os => cell_regrown (newCell w #[.int .i64 3, .int .i64 op, .int .i64 num, .string (B name), v] 24 4 _ rfl) d os
      have cN := fun d os => Calls.regrown_of (d := d) (os := os) (refName_calls name hn (grow (redrawn (w.alloc (.cells #[.int .i64 3, .int .i64 op, .int .i64 num, .string (B name), v] 24)) d) os))
      rw [hname] at cN
      go_enter Tryd.func75, Tryd.ntmps75
      go_wp2_with fail
      generalize w.alloc (.cells #[.int .i64 3, .int .i64 op, .int .i64 num, .string (B name), v] 24) = w2 at *
      refine wp_region_quiet_below (by kernel_rfl) (by kernel_rfl) ?_
      repeat (quiet_step (exact cN _ _))
      refine wpQuiet_nil ?_
      intro _ hw'
      obtain ⟨⟨dq, osq⟩, hw''⟩ := hw'
      subst hw''
      go_wp2_with fail
      go_ret2
      exact ⟨by rw [F.out]; rfl, hb2.trans ((below_regrown w2 dq osq).mono hb2.size)⟩
  · simp only [Bool.not_eq_true] at hname
    have F := Lib.hid (show fldB ⟨3, op, num, name, args⟩ = false by (simp [fldB, exRow, howB, hname]) <;> (intros; omega))
    have hb2 : Below w.heap.size w (w.alloc (.cells #[.int .i64 3, .int .i64 op, .int .i64 num, .string (B name), v] 24)) := (Below.refl _ w).alloc (Nat.le_refl _) _
    have k0 := fun d os => cell_regrown (newCell w #[.int .i64 3, .int .i64 op, .int .i64 num, .string (B name), v] 24 0 _ rfl) d os
    have k1 := fun d os => cell_regrown (newCell w #[.int .i64 3, .int .i64 op, .int .i64 num, .string (B name), v] 24 1 _ rfl) d os
    have k2 := fun d os => cell_regrown (newCell w #[.int .i64 3, .int .i64 op, .int .i64 num, .string (B name), v] 24 2 _ rfl) d os
    have k3 := fun d os => cell_regrown (newCell w #[.int .i64 3, .int .i64 op, .int .i64 num, .string (B name), v] 24 3 _ rfl) d os
    have k4 := fun d os => cell_regrown (newCell w #[.int .i64 3, .int .i64 op, .int .i64 num, .string (B name), v] 24 4 _ rfl) d os
    have cN := fun d os => Calls.regrown_of (d := d) (os := os) (refName_calls name hn (grow (redrawn (w.alloc (.cells #[.int .i64 3, .int .i64 op, .int .i64 num, .string (B name), v] 24)) d) os))
    rw [hname] at cN
    go_enter Tryd.func75, Tryd.ntmps75
    go_wp2_with fail
    generalize w.alloc (.cells #[.int .i64 3, .int .i64 op, .int .i64 num, .string (B name), v] 24) = w2 at *
    refine wp_region_quiet_below (by kernel_rfl) (by kernel_rfl) ?_
    repeat (quiet_step (exact cN _ _))
    refine wpQuiet_nil ?_
    intro _ hw'
    obtain ⟨⟨dq, osq⟩, hw''⟩ := hw'
    subst hw''
    go_wp2_with fail
    go_ret2
    exact ⟨by rw [F.out]; rfl, hb2.trans ((below_regrown w2 dq osq).mono hb2.size)⟩
end Go.Proofs.YthiilnhiihfknaaDoor
