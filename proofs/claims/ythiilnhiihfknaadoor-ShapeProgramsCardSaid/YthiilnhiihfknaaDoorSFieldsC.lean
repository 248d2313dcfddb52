/-
  The reference's fields: its contract. Written by gen3_fields.py.
-/
import Derived.Test.YthiilnhiihfknaaDoorSFieldsD
import Derived.Lib.QuietBelow
namespace Go.Proofs.YthiilnhiihfknaaDoor
open Go Go.RowKit Go.Sort


set_option maxHeartbeats 4000000 in
theorem fields_6 (op num : Int) (hub : num ≤ 9223372036854775807) (name : Bytes) (hn : name.length ≤ 9223372036854775807) (args : List Ex) (v : Value) (w : World) :
    Calls Tryd.prog 75 #[.agg #[.int .i64 6, .int .i64 op, .int .i64 num, .string (B name), v]] w fun x w' => x = .returned (.tuple #[.int .i64 1, .bool (fldB ⟨6, op, num, name, args⟩)]) ∧ Below w.heap.size w w' := by
  by_cases hname : nameB name = true
  · have hne : name ≠ [] := by rintro rfl; simp [nameB] at hname
    by_cases h1 : op = 0
    · subst h1
      by_cases h2 : num = 0
      · subst h2
        have F := Lib.hid (show fldB ⟨6, 0, 0, name, args⟩ = true by (simp [fldB, exRow, howB, hname, hne]) <;> (intros; omega))
        have hb2 : Below w.heap.size w (w.alloc (.cells #[.int .i64 6, .int .i64 0, .int .i64 0, .string (B name), v] 24)) := (Below.refl _ w).alloc (Nat.le_refl _) _
        have k0 := fun d os => cell_regrown (newCell w #[.int .i64 6, .int .i64 0, .int .i64 0, .string (B name), v] 24 0 _ rfl) d os
        have k1 := fun d os => cell_regrown (newCell w #[.int .i64 6, .int .i64 0, .int .i64 0, .string (B name), v] 24 1 _ rfl) d os
        have k2 := fun d os => cell_regrown (newCell w #[.int .i64 6, .int .i64 0, .int .i64 0, .string (B name), v] 24 2 _ rfl) d os
        have k3 := fun d os => cell_regrown (newCell w #[.int .i64 6, .int .i64 0, .int .i64 0, .string (B name), v] 24 3 _ rfl) d os
        have k4 := fun d os => cell_regrown (newCell w #[.int .i64 6, .int .i64 0, .int .i64 0, .string (B name), v] 24 4 _ rfl) d os
        have cN := fun d os => Calls.regrown_of (d := d) (os := os) (refName_calls name hn (grow (redrawn (w.alloc (.cells #[.int .i64 6, .int .i64 0, .int .i64 0, .string (B name), v] 24)) d) os))
        rw [hname] at cN
        go_enter Tryd.func75, Tryd.ntmps75
        go_wp2_with fail
        generalize w.alloc (.cells #[.int .i64 6, .int .i64 0, .int .i64 0, .string (B name), v] 24) = w2 at *
        refine wp_region_quiet_below (by kernel_rfl) (by kernel_rfl) ?_
        repeat (quiet_step (exact cN _ _))
        refine wpQuiet_nil ?_
        intro _ hw'
        obtain ⟨⟨dq, osq⟩, hw''⟩ := hw'
        subst hw''
        go_wp2_with fail
        go_ret2
        exact ⟨by rw [F.out]; rfl, hb2.trans ((below_regrown w2 dq osq).mono hb2.size)⟩
      · have h2' : (num == 0) = false := by simpa using h2
        have hx2 : ¬ (0 ≤ num ∧ num ≤ 0) := by omega
        clear h2
        have F := Lib.hid (show fldB ⟨6, 0, num, name, args⟩ = false by (simp [fldB, exRow, howB, hname, hne]) <;> (intros; omega))
        have hb2 : Below w.heap.size w (w.alloc (.cells #[.int .i64 6, .int .i64 0, .int .i64 num, .string (B name), v] 24)) := (Below.refl _ w).alloc (Nat.le_refl _) _
        have k0 := fun d os => cell_regrown (newCell w #[.int .i64 6, .int .i64 0, .int .i64 num, .string (B name), v] 24 0 _ rfl) d os
        have k1 := fun d os => cell_regrown (newCell w #[.int .i64 6, .int .i64 0, .int .i64 num, .string (B name), v] 24 1 _ rfl) d os
        have k2 := fun d os => cell_regrown (newCell w #[.int .i64 6, .int .i64 0, .int .i64 num, .string (B name), v] 24 2 _ rfl) d os
        have k3 := fun d os => cell_regrown (newCell w #[.int .i64 6, .int .i64 0, .int .i64 num, .string (B name), v] 24 3 _ rfl) d os
        have k4 := fun d os => cell_regrown (newCell w #[.int .i64 6, .int .i64 0, .int .i64 num, .string (B name), v] 24 4 _ rfl) d os
        have cN := fun d os => Calls.regrown_of (d := d) (os := os) (refName_calls name hn (grow (redrawn (w.alloc (.cells #[.int .i64 6, .int .i64 0, .int .i64 num, .string (B name), v] 24)) d) os))
        rw [hname] at cN
        go_enter Tryd.func75, Tryd.ntmps75
        go_wp2_with fail
        generalize w.alloc (.cells #[.int .i64 6, .int .i64 0, .int .i64 num, .string (B name), v] 24) = w2 at *
        refine wp_region_quiet_below (by kernel_rfl) (by kernel_rfl) ?_
        repeat (quiet_step (exact cN _ _))
        refine wpQuiet_nil ?_
        intro _ hw'
        obtain ⟨⟨dq, osq⟩, hw''⟩ := hw'
        subst hw''
        go_wp2_with fail
        go_ret2
        exact ⟨by rw [F.out]; rfl, hb2.trans ((below_regrown w2 dq osq).mono hb2.size)⟩
    · have h1' : (op == 0) = false := by simpa using h1
      have hx1 : ¬ (0 ≤ op ∧ op ≤ 0) := by omega
      clear h1
      have F := Lib.hid (show fldB ⟨6, op, num, name, args⟩ = false by (simp [fldB, exRow, howB, hname, hne]) <;> (intros; omega))
      have hb2 : Below w.heap.size w (w.alloc (.cells #[.int .i64 6, .int .i64 op, .int .i64 num, .string (B name), v] 24)) := (Below.refl _ w).alloc (Nat.le_refl _) _
      have k0 := fun d os => cell_regrown (newCell w #[.int .i64 6, .int .i64 op, .int .i64 num, .string (B name), v] 24 0 _ rfl) d os
      have k1 := fun d os => cell_regrown (newCell w #[.int .i64 6, .int .i64 op, .int .i64 num, .string (B name), v] 24 1 _ rfl) d os
      have k2 := fun d os => cell_regrown (newCell w #[.int .i64 6, .int .i64 op, .int .i64 num, .string (B name), v] 24 2 _ rfl) d os
      have k3 := fun d os => cell_regrown (newCell w #[.int .i64 6, .int .i64 op, .int .i64 num, .string (B name), v] 24 3 _ rfl) d os
      have k4 := fun d os => cell_regrown (newCell w #[.int .i64 6, .int .i64 op, .int .i64 num, .string (B name), v] 24 4 _ rfl) d os
      have cN := fun d os => Calls.regrown_of (d := d) (os := os) (refName_calls name hn (grow (redrawn (w.alloc (.cells #[.int .i64 6, .int .i64 op, .int .i64 num, .string (B name), v] 24)) d) os))
      rw [hname] at cN
      go_enter Tryd.func75, Tryd.ntmps75
      go_wp2_with fail
      generalize w.alloc (.cells #[.int .i64 6, .int .i64 op, .int .i64 num, .string (B name), v] 24) = w2 at *
      refine wp_region_quiet_below (by kernel_rfl) (by kernel_rfl) ?_
      repeat (quiet_step (exact cN _ _))
      refine wpQuiet_nil ?_
      intro _ hw'
      obtain ⟨⟨dq, osq⟩, hw''⟩ := hw'
      subst hw''
      go_wp2_with fail
      go_ret2
      exact ⟨by rw [F.out]; rfl, hb2.trans ((below_regrown w2 dq osq).mono hb2.size)⟩
  · simp only [Bool.not_eq_true] at hname
    have F := Lib.hid (show fldB ⟨6, op, num, name, args⟩ = false by (simp [fldB, exRow, howB, hname]) <;> (intros; omega))
    have hb2 : Below w.heap.size w (w.alloc (.cells #[.int .i64 6, .int .i64 op, .int .i64 num, .string (B name), v] 24)) := (Below.refl _ w).alloc (Nat.le_refl _) _
    have k0 := fun d os => cell_regrown (newCell w #[.int .i64 6, .int .i64 op, .int .i64 num, .string (B name), v] 24 0 _ rfl) d os
    have k1 := fun d os => cell_regrown (newCell w #[.int .i64 6, .int .i64 op, .int .i64 num, .string (B name), v] 24 1 _ rfl) d os
    have k2 := fun d os => cell_regrown (newCell w #[.int .i64 6, .int .i64 op, .int .i64 num, .string (B name), v] 24 2 _ rfl) d os
    have k3 := fun d os => cell_regrown (newCell w #[.int .i64 6, .int .i64 op, .int .i64 num, .string (B name), v] 24 3 _ rfl) d os
    have k4 := fun d os => cell_regrown (newCell w #[.int .i64 6, .int .i64 op, .int .i64 num, .string (B name), v] 24 4 _ rfl) d os
    have cN := fun d os => Calls.regrown_of (d := d) (os := os) (refName_calls name hn (grow (redrawn (w.alloc (.cells #[.int .i64 6, .int .i64 op, .int .i64 num, .string (B name), v] 24)) d) os))
    rw [hname] at cN
    go_enter Tryd.func75, Tryd.ntmps75
    go_wp2_with fail
    generalize w.alloc (.cells #[.int .i64 6, .int .i64 op, .int .i64 num, .string (B name), v] 24) = w2 at *
    refine wp_region_quiet_below (by kernel_rfl) (by kernel_rfl) ?_
    repeat (quiet_step (exact cN _ _))
    refine wpQuiet_nil ?_
    intro _ hw'
    obtain ⟨⟨dq, osq⟩, hw''⟩ := hw'
    subst hw''
    go_wp2_with fail
    go_ret2
    exact ⟨by rw [F.out]; rfl, hb2.trans ((below_regrown w2 dq osq).mono hb2.size)⟩

set_option maxHeartbeats 4000000 in
theorem fields_7 (op num : Int) (hub : num ≤ 9223372036854775807) (name : Bytes) (hn : name.length ≤ 9223372036854775807) (args : List Ex) (v : Value) (w : World) :
    Calls Tryd.prog 75 #[.agg #[.int .i64 7, .int .i64 op, .int .i64 num, .string (B name), v]] w fun x w' => x = .returned (.tuple #[.int .i64 0, .bool (fldB ⟨7, op, num, name, args⟩)]) ∧ Below w.heap.size w w' := by
  by_cases hname : nameB name = true
  · have hne : name ≠ [] := by rintro rfl; simp [nameB] at hname
    by_cases h1 : op = 0
    · subst h1
      by_cases h2 : num = 0
      · subst h2
        have F := Lib.hid (show fldB ⟨7, 0, 0, name, args⟩ = true by (simp [fldB, exRow, howB, hname, hne]) <;> (intros; omega))
        have hb2 : Below w.heap.size w (w.alloc (.cells #[.int .i64 7, .int .i64 0, .int .i64 0, .string (B name), v] 24)) := (Below.refl _ w).alloc (Nat.le_refl _) _
        have k0 := fun d os => cell_regrown (newCell w #[.int .i64 7, .int .i64 0, .int .i64 0, .string (B name), v] 24 0 _ rfl) d os
        have k1 := fun d os => cell_regrown (newCell w #[.int .i64 7, .int .i64 0, .int .i64 0, .string (B name), v] 24 1 _ rfl) d os
        have k2 := fun d os => cell_regrown (newCell w #[.int .i64 7, .int .i64 0, .int .i64 0, .string (B name), v] 24 2 _ rfl) d os
        have k3 := fun d os => cell_regrown (newCell w #[.int .i64 7, .int .i64 0, .int .i64 0, .string (B name), v] 24 3 _ rfl) d os
        have k4 := fun d os => cell_regrown (newCell w #[.int .i64 7, .int .i64 0, .int .i64 0, .string (B name), v] 24 4 _ rfl) d os
        have cN := fun d os => Calls.regrown_of (d := d) (os := os) (refName_calls name hn (grow (redrawn (w.alloc (.cells #[.int .i64 7, .int .i64 0, .int .i64 0, .string (B name), v] 24)) d) os))
        rw [hname] at cN
        go_enter Tryd.func75, Tryd.ntmps75
        go_wp2_with fail
        generalize w.alloc (.cells #[.int .i64 7, .int .i64 0, .int .i64 0, .string (B name), v] 24) = w2 at *
        refine wp_region_quiet_below (by kernel_rfl) (by kernel_rfl) ?_
        repeat (quiet_step (exact cN _ _))
        refine wpQuiet_nil ?_
        intro _ hw'
        obtain ⟨⟨dq, osq⟩, hw''⟩ := hw'
        subst hw''
        go_wp2_with fail
        go_ret2
        exact ⟨by rw [F.out]; rfl, hb2.trans ((below_regrown w2 dq osq).mono hb2.size)⟩
      · have h2' : (num == 0) = false := by simpa using h2
        have hx2 : ¬ (0 ≤ num ∧ num ≤ 0) := by omega
        clear h2
        have F := Lib.hid (show fldB ⟨7, 0, num, name, args⟩ = false by (simp [fldB, exRow, howB, hname, hne]) <;> (intros; omega))
        have hb2 : Below w.heap.size w (w.alloc (.cells #[.int .i64 7, .int .i64 0, .int .i64 num, .string (B name), v] 24)) := (Below.refl _ w).alloc (Nat.le_refl _) _
        have k0 := fun d os => cell_regrown (newCell w #[.int .i64 7, .int .i64 0, .int .i64 num, .string (B name), v] 24 0 _ rfl) d os
        have k1 := fun d os => cell_regrown (newCell w #[.int .i64 7, .int .i64 0, .int .i64 num, .string (B name), v] 24 1 _ rfl) d os
        have k2 := fun d os => cell_regrown (newCell w #[.int .i64 7, .int .i64 0, .int .i64 num, .string (B name), v] 24 2 _ rfl) d os
        have k3 := fun d os => cell_regrown (newCell w #[.int .i64 7, .int .i64 0, .int .i64 num, .string (B name), v] 24 3 _ rfl) d os
        have k4 := fun d os => cell_regrown (newCell w #[.int .i64 7, .int .i64 0, .int .i64 num, .string (B name), v] 24 4 _ rfl) d os
        have cN := fun d os => Calls.regrown_of (d := d) (os := os) (refName_calls name hn (grow (redrawn (w.alloc (.cells #[.int .i64 7, .int .i64 0, .int .i64 num, .string (B name), v] 24)) d) os))
        rw [hname] at cN
        go_enter Tryd.func75, Tryd.ntmps75
        go_wp2_with fail
        generalize w.alloc (.cells #[.int .i64 7, .int .i64 0, .int .i64 num, .string (B name), v] 24) = w2 at *
        refine wp_region_quiet_below (by kernel_rfl) (by kernel_rfl) ?_
        repeat (quiet_step (exact cN _ _))
        refine wpQuiet_nil ?_
        intro _ hw'
        obtain ⟨⟨dq, osq⟩, hw''⟩ := hw'
        subst hw''
        go_wp2_with fail
        go_ret2
        exact ⟨by rw [F.out]; rfl, hb2.trans ((below_regrown w2 dq osq).mono hb2.size)⟩
    · have h1' : (op == 0) = false := by simpa using h1
      have hx1 : ¬ (0 ≤ op ∧ op ≤ 0) := by omega
      clear h1
      have F := Lib.hid (show fldB ⟨7, op, num, name, args⟩ = false by (simp [fldB, exRow, howB, hname, hne]) <;> (intros; omega))
      have hb2 : Below w.heap.size w (w.alloc (.cells #[.int .i64 7, .int .i64 op, .int .i64 num, .string (B name), v] 24)) := (Below.refl _ w).alloc (Nat.le_refl _) _
      have k0 := fun d os => cell_regrown (newCell w #[.int .i64 7, .int .i64 op, .int .i64 num, .string (B name), v] 24 0 _ rfl) d os
      have k1 := fun d os => cell_regrown (newCell w #[.int .i64 7, .int .i64 op, .int .i64 num, .string (B name), v] 24 1 _ rfl) d os
      have k2 := fun d os => cell_regrown (newCell w #[.int .i64 7, .int .i64 op, .int .i64 num, .string (B name), v] 24 2 _ rfl) d os
      have k3 := fun d os => cell_regrown (newCell w #[.int .i64 7, .int .i64 op, .int .i64 num, .string (B name), v] 24 3 _ rfl) d os
      have k4 := fun d os => cell_regrown (newCell w #[.int .i64 7, .int .i64 op, .int .i64 num, .string (B name), v] 24 4 _ rfl) d os
      have cN := fun d os => Calls.regrown_of (d := d) (os := os) (refName_calls name hn (grow (redrawn (w.alloc (.cells #[.int .i64 7, .int .i64 op, .int .i64 num, .string (B name), v] 24)) d) os))
      rw [hname] at cN
      go_enter Tryd.func75, Tryd.ntmps75
      go_wp2_with fail
      generalize w.alloc (.cells #[.int .i64 7, .int .i64 op, .int .i64 num, .string (B name), v] 24) = w2 at *
      refine wp_region_quiet_below (by kernel_rfl) (by kernel_rfl) ?_
      repeat (quiet_step (exact cN _ _))
      refine wpQuiet_nil ?_
      intro _ hw'
      obtain ⟨⟨dq, osq⟩, hw''⟩ := hw'
      subst hw''
      go_wp2_with fail
      go_ret2
      exact ⟨by rw [F.out]; rfl, hb2.trans ((below_regrown w2 dq osq).mono hb2.size)⟩
  · simp only [Bool.not_eq_true] at hname
    have F := Lib.hid (show fldB ⟨7, op, num, name, args⟩ = false by (simp [fldB, exRow, howB, hname]) <;> (intros; omega))
    have hb2 : Below w.heap.size w (w.alloc (.cells #[.int .i64 7, .int .i64 op, .int .i64 num, .string (B name), v] 24)) := (Below.refl _ w).alloc (Nat.le_refl _) _
    have k0 := fun d os => cell_regrown (newCell w #[.int .i64 7, .int .i64 op, .int .i64 num, .string (B name), v] 24 0 _ rfl) d os
    have k1 := fun d os => cell_regrown (newCell w #[.int .i64 7, .int .i64 op, .int .i64 num, .string (B name), v] 24 1 _ rfl) d os
    have k2 := fun d os => cell_regrown (newCell w #[.int .i64 7, .int .i64 op, .int .i64 num, .string (B name), v] 24 2 _ rfl) d os
    have k3 := fun d os => cell_regrown (newCell w #[.int .i64 7, .int .i64 op, .int .i64 num, .string (B name), v] 24 3 _ rfl) d os
    have k4 := fun d os => cell_regrown (newCell w #[.int .i64 7, .int .i64 op, .int .i64 num, .string (B name), v] 24 4 _ rfl) d os
    have cN := fun d os => Calls.regrown_of (d := d) (os := os) (refName_calls name hn (grow (redrawn (w.alloc (.cells #[.int .i64 7, .int .i64 op, .int .i64 num, .string (B name), v] 24)) d) os))
    rw [hname] at cN
    go_enter Tryd.func75, Tryd.ntmps75
    go_wp2_with fail
    generalize w.alloc (.cells #[.int .i64 7, .int .i64 op, .int .i64 num, .string (B name), v] 24) = w2 at *
    refine wp_region_quiet_below (by kernel_rfl) (by kernel_rfl) ?_
    repeat (quiet_step (exact cN _ _))
    refine wpQuiet_nil ?_
    intro _ hw'
    obtain ⟨⟨dq, osq⟩, hw''⟩ := hw'
    subst hw''
    go_wp2_with fail
    go_ret2
    exact ⟨by rw [F.out]; rfl, hb2.trans ((below_regrown w2 dq osq).mono hb2.size)⟩
end Go.Proofs.YthiilnhiihfknaaDoor
