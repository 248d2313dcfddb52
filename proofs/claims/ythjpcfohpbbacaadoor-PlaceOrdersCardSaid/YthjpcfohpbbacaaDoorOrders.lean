/-
  rewindlaw01.PlaceOrders returns true for every three places, and its arguments read afterwards as before. Conditions: the row's own (the library's tables and errors hold what their initialisers lay).
-/
import Derived.Test.YthjpcfohpbbacaaDoorFrame
namespace Go.Proofs.YthjpcfohpbbacaaDoor.orders
open Go Go.ChangeShapes Go.WideShapes Go.ChangeAt Go.RowKit Go.Joins Go.Proofs.YthjpcfohpbbacaaDoor

def cmp3 (a0 a1 b0 b1 : Int) : Int := if a0 = b0 then Lib.compareInt a1 b1 else Lib.compareInt a0 b0

open Go.Sort in
set_option maxRecDepth 100000 in
set_option maxHeartbeats 1000000 in
theorem walk_a1 (a0 a1 b0 b1 c0 c1 y z : Int) (e0 : (a0 == b0) = false) (el : decide (a0 < b0) = true) (ey : decide (y ≤ 0) = true) (ez : decide (0 < z) = false)
    (hx : ∀ W, Calls Tryd.prog 24 #[.agg #[.int .i64 a0, .int .i64 a1], .agg #[.int .i64 b0, .int .i64 b1]] W fun e w' => e = .returned (.int .i64 (-1)) ∧ Below W.heap.size W w')
    (hy : ∀ W, Calls Tryd.prog 24 #[.agg #[.int .i64 b0, .int .i64 b1], .agg #[.int .i64 c0, .int .i64 c1]] W fun e w' => e = .returned (.int .i64 y) ∧ Below W.heap.size W w')
    (hz : ∀ W, Calls Tryd.prog 24 #[.agg #[.int .i64 a0, .int .i64 a1], .agg #[.int .i64 c0, .int .i64 c1]] W fun e w' => e = .returned (.int .i64 z) ∧ Below W.heap.size W w')
    (hv : ∀ W, Calls Tryd.prog 24 #[.agg #[.int .i64 b0, .int .i64 b1], .agg #[.int .i64 a0, .int .i64 a1]] W fun e w' => e = .returned (.int .i64 (1)) ∧ Below W.heap.size W w')
    (w : World) (hG : Glob w) :
    Calls Tryd.prog 9 #[.agg #[.int .i64 a0, .int .i64 a1], .agg #[.int .i64 b0, .int .i64 b1], .agg #[.int .i64 c0, .int .i64 c1]] w fun e w' => e = .returned (.bool true) ∧ Below w.heap.size w w' := by
  have hW := fun W hG => works_calls W hG
  have HW := Lib.hid hW
  have HG := Lib.hid hG
  have HV := Lib.hid hv
  clear hW hG hv
  go_enter Tryd.func9, Tryd.ntmps9
  have hb0 : Below w.heap.size w (((w.alloc (.cells #[.int .i64 a0, .int .i64 a1] 24)).alloc (.cells #[.int .i64 b0, .int .i64 b1] 24)).alloc (.cells #[.int .i64 c0, .int .i64 c1] 24)) :=
    (((Below.refl _ w).alloc (Nat.le_refl _) _).alloc (by simp) _).alloc (by simp; omega) _
  have k0 := (((Cell.new w #[.int .i64 a0, .int .i64 a1] 24 0 _ rfl).alloc (.cells #[.int .i64 b0, .int .i64 b1] 24)).alloc (.cells #[.int .i64 c0, .int .i64 c1] 24)).1
  have k1 := (((Cell.new w #[.int .i64 a0, .int .i64 a1] 24 1 _ rfl).alloc (.cells #[.int .i64 b0, .int .i64 b1] 24)).alloc (.cells #[.int .i64 c0, .int .i64 c1] 24)).1
  have k2 := ((Cell.new (w.alloc (.cells #[.int .i64 a0, .int .i64 a1] 24)) #[.int .i64 b0, .int .i64 b1] 24 0 _ rfl).alloc (.cells #[.int .i64 c0, .int .i64 c1] 24)).1
  have k3 := ((Cell.new (w.alloc (.cells #[.int .i64 a0, .int .i64 a1] 24)) #[.int .i64 b0, .int .i64 b1] 24 1 _ rfl).alloc (.cells #[.int .i64 c0, .int .i64 c1] 24)).1
  have k4 := (Cell.new ((w.alloc (.cells #[.int .i64 a0, .int .i64 a1] 24)).alloc (.cells #[.int .i64 b0, .int .i64 b1] 24)) #[.int .i64 c0, .int .i64 c1] 24 0 _ rfl).1
  have k5 := (Cell.new ((w.alloc (.cells #[.int .i64 a0, .int .i64 a1] 24)).alloc (.cells #[.int .i64 b0, .int .i64 b1] 24)) #[.int .i64 c0, .int .i64 c1] 24 1 _ rfl).1
  simp only [World.size_alloc] at k2 k3 k4 k5
  go_wp2_with fail
  generalize ((w.alloc (.cells #[.int .i64 a0, .int .i64 a1] 24)).alloc (.cells #[.int .i64 b0, .int .i64 b1] 24)).alloc (.cells #[.int .i64 c0, .int .i64 c1] 24) = w3 at *
  have cx := fun d os => Calls.regrown_of (d := d) (os := os) (hx (grow (redrawn w3 d) os))
  have cy := fun d os => Calls.regrown_of (d := d) (os := os) (hy (grow (redrawn w3 d) os))
  have cz := fun d os => Calls.regrown_of (d := d) (os := os) (hz (grow (redrawn w3 d) os))
  clear hx hy hz
  have k0 := fun d os => cell_regrown k0 d os
  have k1 := fun d os => cell_regrown k1 d os
  have k2 := fun d os => cell_regrown k2 d os
  have k3 := fun d os => cell_regrown k3 d os
  have k4 := fun d os => cell_regrown k4 d os
  have k5 := fun d os => cell_regrown k5 d os
  refine wp_region_quiet_below (by kernel_rfl) (by kernel_rfl) ?_
  repeat (quiet_step (first | with_reducible exact cx _ _ | with_reducible exact cy _ _ | with_reducible exact cz _ _))
  refine wpQuiet_nil ?_
  intro _ hw'
  obtain ⟨⟨dq, osq⟩, hw''⟩ := hw'
  subst hw''
  have BL := Lib.hid <| hb0.trans ((below_regrown w3 dq osq).mono hb0.size)
  have k0 := k0 dq osq
  have k1 := k1 dq osq
  have k2 := k2 dq osq
  have k3 := k3 dq osq
  clear cx cy cz k4 k5 hb0
  generalize grow (redrawn w3 dq) osq = w4 at *
  go_wp2_with fail
  refine (HV.out _).mono ?_
  clear HV
  rintro e w5 ⟨rfl, hb⟩
  have B5 := Lib.hid (after BL.out hb)
  have k0 := (hb.cell (World.block_lt_of_cell? _ _ k0)).trans k0
  have k1 := (hb.cell (World.block_lt_of_cell? _ _ k1)).trans k1
  have k2 := (hb.cell (World.block_lt_of_cell? _ _ k2)).trans k2
  have k3 := (hb.cell (World.block_lt_of_cell? _ _ k3)).trans k3
  clear hb BL
  go_wp2_with fail
  refine (HW.out _ (HG.out.below B5.out)).mono ?_
  clear HW HG
  rintro e w6 ⟨rfl, hb⟩
  have B6 := Lib.hid (after B5.out hb)
  clear hb B5
  go_wp2_with fail
  go_ret
  exact ⟨rfl, B6.out⟩

open Go.Sort in
set_option maxRecDepth 100000 in
set_option maxHeartbeats 1000000 in
theorem walk_a2 (a0 a1 b0 b1 c0 c1 y z : Int) (e0 : (a0 == b0) = false) (el : decide (a0 < b0) = true) (ey : decide (y ≤ 0) = false)
    (hx : ∀ W, Calls Tryd.prog 24 #[.agg #[.int .i64 a0, .int .i64 a1], .agg #[.int .i64 b0, .int .i64 b1]] W fun e w' => e = .returned (.int .i64 (-1)) ∧ Below W.heap.size W w')
    (hy : ∀ W, Calls Tryd.prog 24 #[.agg #[.int .i64 b0, .int .i64 b1], .agg #[.int .i64 c0, .int .i64 c1]] W fun e w' => e = .returned (.int .i64 y) ∧ Below W.heap.size W w')
    (hz : ∀ W, Calls Tryd.prog 24 #[.agg #[.int .i64 a0, .int .i64 a1], .agg #[.int .i64 c0, .int .i64 c1]] W fun e w' => e = .returned (.int .i64 z) ∧ Below W.heap.size W w')
    (hv : ∀ W, Calls Tryd.prog 24 #[.agg #[.int .i64 b0, .int .i64 b1], .agg #[.int .i64 a0, .int .i64 a1]] W fun e w' => e = .returned (.int .i64 (1)) ∧ Below W.heap.size W w')
    (w : World) (hG : Glob w) :
    Calls Tryd.prog 9 #[.agg #[.int .i64 a0, .int .i64 a1], .agg #[.int .i64 b0, .int .i64 b1], .agg #[.int .i64 c0, .int .i64 c1]] w fun e w' => e = .returned (.bool true) ∧ Below w.heap.size w w' := by
  have hW := fun W hG => works_calls W hG
  have HW := Lib.hid hW
  have HG := Lib.hid hG
  have HV := Lib.hid hv
  clear hW hG hv
  go_enter Tryd.func9, Tryd.ntmps9
  have hb0 : Below w.heap.size w (((w.alloc (.cells #[.int .i64 a0, .int .i64 a1] 24)).alloc (.cells #[.int .i64 b0, .int .i64 b1] 24)).alloc (.cells #[.int .i64 c0, .int .i64 c1] 24)) :=
    (((Below.refl _ w).alloc (Nat.le_refl _) _).alloc (by simp) _).alloc (by simp; omega) _
  have k0 := (((Cell.new w #[.int .i64 a0, .int .i64 a1] 24 0 _ rfl).alloc (.cells #[.int .i64 b0, .int .i64 b1] 24)).alloc (.cells #[.int .i64 c0, .int .i64 c1] 24)).1
  have k1 := (((Cell.new w #[.int .i64 a0, .int .i64 a1] 24 1 _ rfl).alloc (.cells #[.int .i64 b0, .int .i64 b1] 24)).alloc (.cells #[.int .i64 c0, .int .i64 c1] 24)).1
  have k2 := ((Cell.new (w.alloc (.cells #[.int .i64 a0, .int .i64 a1] 24)) #[.int .i64 b0, .int .i64 b1] 24 0 _ rfl).alloc (.cells #[.int .i64 c0, .int .i64 c1] 24)).1
  have k3 := ((Cell.new (w.alloc (.cells #[.int .i64 a0, .int .i64 a1] 24)) #[.int .i64 b0, .int .i64 b1] 24 1 _ rfl).alloc (.cells #[.int .i64 c0, .int .i64 c1] 24)).1
  have k4 := (Cell.new ((w.alloc (.cells #[.int .i64 a0, .int .i64 a1] 24)).alloc (.cells #[.int .i64 b0, .int .i64 b1] 24)) #[.int .i64 c0, .int .i64 c1] 24 0 _ rfl).1
  have k5 := (Cell.new ((w.alloc (.cells #[.int .i64 a0, .int .i64 a1] 24)).alloc (.cells #[.int .i64 b0, .int .i64 b1] 24)) #[.int .i64 c0, .int .i64 c1] 24 1 _ rfl).1
  simp only [World.size_alloc] at k2 k3 k4 k5
  go_wp2_with fail
  generalize ((w.alloc (.cells #[.int .i64 a0, .int .i64 a1] 24)).alloc (.cells #[.int .i64 b0, .int .i64 b1] 24)).alloc (.cells #[.int .i64 c0, .int .i64 c1] 24) = w3 at *
  have cx := fun d os => Calls.regrown_of (d := d) (os := os) (hx (grow (redrawn w3 d) os))
  have cy := fun d os => Calls.regrown_of (d := d) (os := os) (hy (grow (redrawn w3 d) os))
  have cz := fun d os => Calls.regrown_of (d := d) (os := os) (hz (grow (redrawn w3 d) os))
  clear hx hy hz
  have k0 := fun d os => cell_regrown k0 d os
  have k1 := fun d os => cell_regrown k1 d os
  have k2 := fun d os => cell_regrown k2 d os
  have k3 := fun d os => cell_regrown k3 d os
  have k4 := fun d os => cell_regrown k4 d os
  have k5 := fun d os => cell_regrown k5 d os
  refine wp_region_quiet_below (by kernel_rfl) (by kernel_rfl) ?_
  repeat (quiet_step (first | with_reducible exact cx _ _ | with_reducible exact cy _ _ | with_reducible exact cz _ _))
  refine wpQuiet_nil ?_
  intro _ hw'
  obtain ⟨⟨dq, osq⟩, hw''⟩ := hw'
  subst hw''
  have BL := Lib.hid <| hb0.trans ((below_regrown w3 dq osq).mono hb0.size)
  have k0 := k0 dq osq
  have k1 := k1 dq osq
  have k2 := k2 dq osq
  have k3 := k3 dq osq
  clear cx cy cz k4 k5 hb0
  generalize grow (redrawn w3 dq) osq = w4 at *
  go_wp2_with fail
  refine (HV.out _).mono ?_
  clear HV
  rintro e w5 ⟨rfl, hb⟩
  have B5 := Lib.hid (after BL.out hb)
  have k0 := (hb.cell (World.block_lt_of_cell? _ _ k0)).trans k0
  have k1 := (hb.cell (World.block_lt_of_cell? _ _ k1)).trans k1
  have k2 := (hb.cell (World.block_lt_of_cell? _ _ k2)).trans k2
  have k3 := (hb.cell (World.block_lt_of_cell? _ _ k3)).trans k3
  clear hb BL
  go_wp2_with fail
  refine (HW.out _ (HG.out.below B5.out)).mono ?_
  clear HW HG
  rintro e w6 ⟨rfl, hb⟩
  have B6 := Lib.hid (after B5.out hb)
  clear hb B5
  go_wp2_with fail
  go_ret
  exact ⟨rfl, B6.out⟩

open Go.Sort in
set_option maxRecDepth 100000 in
set_option maxHeartbeats 1000000 in
theorem walk_b (a0 a1 b0 b1 c0 c1 y z : Int) (e0 : (a0 == b0) = false) (el : decide (a0 < b0) = false)
    (hx : ∀ W, Calls Tryd.prog 24 #[.agg #[.int .i64 a0, .int .i64 a1], .agg #[.int .i64 b0, .int .i64 b1]] W fun e w' => e = .returned (.int .i64 (1)) ∧ Below W.heap.size W w')
    (hy : ∀ W, Calls Tryd.prog 24 #[.agg #[.int .i64 b0, .int .i64 b1], .agg #[.int .i64 c0, .int .i64 c1]] W fun e w' => e = .returned (.int .i64 y) ∧ Below W.heap.size W w')
    (hz : ∀ W, Calls Tryd.prog 24 #[.agg #[.int .i64 a0, .int .i64 a1], .agg #[.int .i64 c0, .int .i64 c1]] W fun e w' => e = .returned (.int .i64 z) ∧ Below W.heap.size W w')
    (hv : ∀ W, Calls Tryd.prog 24 #[.agg #[.int .i64 b0, .int .i64 b1], .agg #[.int .i64 a0, .int .i64 a1]] W fun e w' => e = .returned (.int .i64 (-1)) ∧ Below W.heap.size W w')
    (w : World) (hG : Glob w) :
    Calls Tryd.prog 9 #[.agg #[.int .i64 a0, .int .i64 a1], .agg #[.int .i64 b0, .int .i64 b1], .agg #[.int .i64 c0, .int .i64 c1]] w fun e w' => e = .returned (.bool true) ∧ Below w.heap.size w w' := by
  have hW := fun W hG => works_calls W hG
  have HW := Lib.hid hW
  have HG := Lib.hid hG
  have HV := Lib.hid hv
  clear hW hG hv
  go_enter Tryd.func9, Tryd.ntmps9
  have hb0 : Below w.heap.size w (((w.alloc (.cells #[.int .i64 a0, .int .i64 a1] 24)).alloc (.cells #[.int .i64 b0, .int .i64 b1] 24)).alloc (.cells #[.int .i64 c0, .int .i64 c1] 24)) :=
    (((Below.refl _ w).alloc (Nat.le_refl _) _).alloc (by simp) _).alloc (by simp; omega) _
  have k0 := (((Cell.new w #[.int .i64 a0, .int .i64 a1] 24 0 _ rfl).alloc (.cells #[.int .i64 b0, .int .i64 b1] 24)).alloc (.cells #[.int .i64 c0, .int .i64 c1] 24)).1
  have k1 := (((Cell.new w #[.int .i64 a0, .int .i64 a1] 24 1 _ rfl).alloc (.cells #[.int .i64 b0, .int .i64 b1] 24)).alloc (.cells #[.int .i64 c0, .int .i64 c1] 24)).1
  have k2 := ((Cell.new (w.alloc (.cells #[.int .i64 a0, .int .i64 a1] 24)) #[.int .i64 b0, .int .i64 b1] 24 0 _ rfl).alloc (.cells #[.int .i64 c0, .int .i64 c1] 24)).1
  have k3 := ((Cell.new (w.alloc (.cells #[.int .i64 a0, .int .i64 a1] 24)) #[.int .i64 b0, .int .i64 b1] 24 1 _ rfl).alloc (.cells #[.int .i64 c0, .int .i64 c1] 24)).1
  have k4 := (Cell.new ((w.alloc (.cells #[.int .i64 a0, .int .i64 a1] 24)).alloc (.cells #[.int .i64 b0, .int .i64 b1] 24)) #[.int .i64 c0, .int .i64 c1] 24 0 _ rfl).1
  have k5 := (Cell.new ((w.alloc (.cells #[.int .i64 a0, .int .i64 a1] 24)).alloc (.cells #[.int .i64 b0, .int .i64 b1] 24)) #[.int .i64 c0, .int .i64 c1] 24 1 _ rfl).1
  simp only [World.size_alloc] at k2 k3 k4 k5
  go_wp2_with fail
  generalize ((w.alloc (.cells #[.int .i64 a0, .int .i64 a1] 24)).alloc (.cells #[.int .i64 b0, .int .i64 b1] 24)).alloc (.cells #[.int .i64 c0, .int .i64 c1] 24) = w3 at *
  have cx := fun d os => Calls.regrown_of (d := d) (os := os) (hx (grow (redrawn w3 d) os))
  have cy := fun d os => Calls.regrown_of (d := d) (os := os) (hy (grow (redrawn w3 d) os))
  have cz := fun d os => Calls.regrown_of (d := d) (os := os) (hz (grow (redrawn w3 d) os))
  clear hx hy hz
  have k0 := fun d os => cell_regrown k0 d os
  have k1 := fun d os => cell_regrown k1 d os
  have k2 := fun d os => cell_regrown k2 d os
  have k3 := fun d os => cell_regrown k3 d os
  have k4 := fun d os => cell_regrown k4 d os
  have k5 := fun d os => cell_regrown k5 d os
  refine wp_region_quiet_below (by kernel_rfl) (by kernel_rfl) ?_
  repeat (quiet_step (first | with_reducible exact cx _ _ | with_reducible exact cy _ _ | with_reducible exact cz _ _))
  refine wpQuiet_nil ?_
  intro _ hw'
  obtain ⟨⟨dq, osq⟩, hw''⟩ := hw'
  subst hw''
  have BL := Lib.hid <| hb0.trans ((below_regrown w3 dq osq).mono hb0.size)
  have k0 := k0 dq osq
  have k1 := k1 dq osq
  have k2 := k2 dq osq
  have k3 := k3 dq osq
  clear cx cy cz k4 k5 hb0
  generalize grow (redrawn w3 dq) osq = w4 at *
  go_wp2_with fail
  refine (HV.out _).mono ?_
  clear HV
  rintro e w5 ⟨rfl, hb⟩
  have B5 := Lib.hid (after BL.out hb)
  have k0 := (hb.cell (World.block_lt_of_cell? _ _ k0)).trans k0
  have k1 := (hb.cell (World.block_lt_of_cell? _ _ k1)).trans k1
  have k2 := (hb.cell (World.block_lt_of_cell? _ _ k2)).trans k2
  have k3 := (hb.cell (World.block_lt_of_cell? _ _ k3)).trans k3
  clear hb BL
  go_wp2_with fail
  refine (HW.out _ (HG.out.below B5.out)).mono ?_
  clear HW HG
  rintro e w6 ⟨rfl, hb⟩
  have B6 := Lib.hid (after B5.out hb)
  clear hb B5
  go_wp2_with fail
  go_ret
  exact ⟨rfl, B6.out⟩

open Go.Sort in
set_option maxRecDepth 100000 in
set_option maxHeartbeats 1000000 in
theorem walk_c1 (a0 a1 b0 b1 c0 c1 y z : Int) (e0 : (a0 == b0) = true) (e1 : (a1 == b1) = false) (el : decide (a0 < b0) = false) (ey : decide (y ≤ 0) = true) (ez : decide (0 < z) = false)
    (hx : ∀ W, Calls Tryd.prog 24 #[.agg #[.int .i64 a0, .int .i64 a1], .agg #[.int .i64 b0, .int .i64 b1]] W fun e w' => e = .returned (.int .i64 (-1)) ∧ Below W.heap.size W w')
    (hy : ∀ W, Calls Tryd.prog 24 #[.agg #[.int .i64 b0, .int .i64 b1], .agg #[.int .i64 c0, .int .i64 c1]] W fun e w' => e = .returned (.int .i64 y) ∧ Below W.heap.size W w')
    (hz : ∀ W, Calls Tryd.prog 24 #[.agg #[.int .i64 a0, .int .i64 a1], .agg #[.int .i64 c0, .int .i64 c1]] W fun e w' => e = .returned (.int .i64 z) ∧ Below W.heap.size W w')
    (hv : ∀ W, Calls Tryd.prog 24 #[.agg #[.int .i64 b0, .int .i64 b1], .agg #[.int .i64 a0, .int .i64 a1]] W fun e w' => e = .returned (.int .i64 (1)) ∧ Below W.heap.size W w')
    (w : World) (hG : Glob w) :
    Calls Tryd.prog 9 #[.agg #[.int .i64 a0, .int .i64 a1], .agg #[.int .i64 b0, .int .i64 b1], .agg #[.int .i64 c0, .int .i64 c1]] w fun e w' => e = .returned (.bool true) ∧ Below w.heap.size w w' := by
  have hW := fun W hG => works_calls W hG
  have HW := Lib.hid hW
  have HG := Lib.hid hG
  have HV := Lib.hid hv
  clear hW hG hv
  go_enter Tryd.func9, Tryd.ntmps9
  have hb0 : Below w.heap.size w (((w.alloc (.cells #[.int .i64 a0, .int .i64 a1] 24)).alloc (.cells #[.int .i64 b0, .int .i64 b1] 24)).alloc (.cells #[.int .i64 c0, .int .i64 c1] 24)) :=
    (((Below.refl _ w).alloc (Nat.le_refl _) _).alloc (by simp) _).alloc (by simp; omega) _
  have k0 := (((Cell.new w #[.int .i64 a0, .int .i64 a1] 24 0 _ rfl).alloc (.cells #[.int .i64 b0, .int .i64 b1] 24)).alloc (.cells #[.int .i64 c0, .int .i64 c1] 24)).1
  have k1 := (((Cell.new w #[.int .i64 a0, .int .i64 a1] 24 1 _ rfl).alloc (.cells #[.int .i64 b0, .int .i64 b1] 24)).alloc (.cells #[.int .i64 c0, .int .i64 c1] 24)).1
  have k2 := ((Cell.new (w.alloc (.cells #[.int .i64 a0, .int .i64 a1] 24)) #[.int .i64 b0, .int .i64 b1] 24 0 _ rfl).alloc (.cells #[.int .i64 c0, .int .i64 c1] 24)).1
  have k3 := ((Cell.new (w.alloc (.cells #[.int .i64 a0, .int .i64 a1] 24)) #[.int .i64 b0, .int .i64 b1] 24 1 _ rfl).alloc (.cells #[.int .i64 c0, .int .i64 c1] 24)).1
  have k4 := (Cell.new ((w.alloc (.cells #[.int .i64 a0, .int .i64 a1] 24)).alloc (.cells #[.int .i64 b0, .int .i64 b1] 24)) #[.int .i64 c0, .int .i64 c1] 24 0 _ rfl).1
  have k5 := (Cell.new ((w.alloc (.cells #[.int .i64 a0, .int .i64 a1] 24)).alloc (.cells #[.int .i64 b0, .int .i64 b1] 24)) #[.int .i64 c0, .int .i64 c1] 24 1 _ rfl).1
  simp only [World.size_alloc] at k2 k3 k4 k5
  go_wp2_with fail
  generalize ((w.alloc (.cells #[.int .i64 a0, .int .i64 a1] 24)).alloc (.cells #[.int .i64 b0, .int .i64 b1] 24)).alloc (.cells #[.int .i64 c0, .int .i64 c1] 24) = w3 at *
  have cx := fun d os => Calls.regrown_of (d := d) (os := os) (hx (grow (redrawn w3 d) os))
  have cy := fun d os => Calls.regrown_of (d := d) (os := os) (hy (grow (redrawn w3 d) os))
  have cz := fun d os => Calls.regrown_of (d := d) (os := os) (hz (grow (redrawn w3 d) os))
  clear hx hy hz
  have k0 := fun d os => cell_regrown k0 d os
  have k1 := fun d os => cell_regrown k1 d os
  have k2 := fun d os => cell_regrown k2 d os
  have k3 := fun d os => cell_regrown k3 d os
  have k4 := fun d os => cell_regrown k4 d os
  have k5 := fun d os => cell_regrown k5 d os
  refine wp_region_quiet_below (by kernel_rfl) (by kernel_rfl) ?_
  repeat (quiet_step (first | with_reducible exact cx _ _ | with_reducible exact cy _ _ | with_reducible exact cz _ _))
  refine wpQuiet_nil ?_
  intro _ hw'
  obtain ⟨⟨dq, osq⟩, hw''⟩ := hw'
  subst hw''
  have BL := Lib.hid <| hb0.trans ((below_regrown w3 dq osq).mono hb0.size)
  have k0 := k0 dq osq
  have k1 := k1 dq osq
  have k2 := k2 dq osq
  have k3 := k3 dq osq
  clear cx cy cz k4 k5 hb0
  generalize grow (redrawn w3 dq) osq = w4 at *
  go_wp2_with fail
  refine (HV.out _).mono ?_
  clear HV
  rintro e w5 ⟨rfl, hb⟩
  have B5 := Lib.hid (after BL.out hb)
  have k0 := (hb.cell (World.block_lt_of_cell? _ _ k0)).trans k0
  have k1 := (hb.cell (World.block_lt_of_cell? _ _ k1)).trans k1
  have k2 := (hb.cell (World.block_lt_of_cell? _ _ k2)).trans k2
  have k3 := (hb.cell (World.block_lt_of_cell? _ _ k3)).trans k3
  clear hb BL
  go_wp2_with fail
  refine (HW.out _ (HG.out.below B5.out)).mono ?_
  clear HW HG
  rintro e w6 ⟨rfl, hb⟩
  have B6 := Lib.hid (after B5.out hb)
  clear hb B5
  go_wp2_with fail
  go_ret
  exact ⟨rfl, B6.out⟩

open Go.Sort in
set_option maxRecDepth 100000 in
set_option maxHeartbeats 1000000 in
theorem walk_c2 (a0 a1 b0 b1 c0 c1 y z : Int) (e0 : (a0 == b0) = true) (e1 : (a1 == b1) = false) (el : decide (a0 < b0) = false) (ey : decide (y ≤ 0) = false)
    (hx : ∀ W, Calls Tryd.prog 24 #[.agg #[.int .i64 a0, .int .i64 a1], .agg #[.int .i64 b0, .int .i64 b1]] W fun e w' => e = .returned (.int .i64 (-1)) ∧ Below W.heap.size W w')
    (hy : ∀ W, Calls Tryd.prog 24 #[.agg #[.int .i64 b0, .int .i64 b1], .agg #[.int .i64 c0, .int .i64 c1]] W fun e w' => e = .returned (.int .i64 y) ∧ Below W.heap.size W w')
    (hz : ∀ W, Calls Tryd.prog 24 #[.agg #[.int .i64 a0, .int .i64 a1], .agg #[.int .i64 c0, .int .i64 c1]] W fun e w' => e = .returned (.int .i64 z) ∧ Below W.heap.size W w')
    (hv : ∀ W, Calls Tryd.prog 24 #[.agg #[.int .i64 b0, .int .i64 b1], .agg #[.int .i64 a0, .int .i64 a1]] W fun e w' => e = .returned (.int .i64 (1)) ∧ Below W.heap.size W w')
    (w : World) (hG : Glob w) :
    Calls Tryd.prog 9 #[.agg #[.int .i64 a0, .int .i64 a1], .agg #[.int .i64 b0, .int .i64 b1], .agg #[.int .i64 c0, .int .i64 c1]] w fun e w' => e = .returned (.bool true) ∧ Below w.heap.size w w' := by
  have hW := fun W hG => works_calls W hG
  have HW := Lib.hid hW
  have HG := Lib.hid hG
  have HV := Lib.hid hv
  clear hW hG hv
  go_enter Tryd.func9, Tryd.ntmps9
  have hb0 : Below w.heap.size w (((w.alloc (.cells #[.int .i64 a0, .int .i64 a1] 24)).alloc (.cells #[.int .i64 b0, .int .i64 b1] 24)).alloc (.cells #[.int .i64 c0, .int .i64 c1] 24)) :=
    (((Below.refl _ w).alloc (Nat.le_refl _) _).alloc (by simp) _).alloc (by simp; omega) _
  have k0 := (((Cell.new w #[.int .i64 a0, .int .i64 a1] 24 0 _ rfl).alloc (.cells #[.int .i64 b0, .int .i64 b1] 24)).alloc (.cells #[.int .i64 c0, .int .i64 c1] 24)).1
  have k1 := (((Cell.new w #[.int .i64 a0, .int .i64 a1] 24 1 _ rfl).alloc (.cells #[.int .i64 b0, .int .i64 b1] 24)).alloc (.cells #[.int .i64 c0, .int .i64 c1] 24)).1
  have k2 := ((Cell.new (w.alloc (.cells #[.int .i64 a0, .int .i64 a1] 24)) #[.int .i64 b0, .int .i64 b1] 24 0 _ rfl).alloc (.cells #[.int .i64 c0, .int .i64 c1] 24)).1
  have k3 := ((Cell.new (w.alloc (.cells #[.int .i64 a0, .int .i64 a1] 24)) #[.int .i64 b0, .int .i64 b1] 24 1 _ rfl).alloc (.cells #[.int .i64 c0, .int .i64 c1] 24)).1
  have k4 := (Cell.new ((w.alloc (.cells #[.int .i64 a0, .int .i64 a1] 24)).alloc (.cells #[.int .i64 b0, .int .i64 b1] 24)) #[.int .i64 c0, .int .i64 c1] 24 0 _ rfl).1
  have k5 := (Cell.new ((w.alloc (.cells #[.int .i64 a0, .int .i64 a1] 24)).alloc (.cells #[.int .i64 b0, .int .i64 b1] 24)) #[.int .i64 c0, .int .i64 c1] 24 1 _ rfl).1
  simp only [World.size_alloc] at k2 k3 k4 k5
  go_wp2_with fail
  generalize ((w.alloc (.cells #[.int .i64 a0, .int .i64 a1] 24)).alloc (.cells #[.int .i64 b0, .int .i64 b1] 24)).alloc (.cells #[.int .i64 c0, .int .i64 c1] 24) = w3 at *
  have cx := fun d os => Calls.regrown_of (d := d) (os := os) (hx (grow (redrawn w3 d) os))
  have cy := fun d os => Calls.regrown_of (d := d) (os := os) (hy (grow (redrawn w3 d) os))
  have cz := fun d os => Calls.regrown_of (d := d) (os := os) (hz (grow (redrawn w3 d) os))
  clear hx hy hz
  have k0 := fun d os => cell_regrown k0 d os
  have k1 := fun d os => cell_regrown k1 d os
  have k2 := fun d os => cell_regrown k2 d os
  have k3 := fun d os => cell_regrown k3 d os
  have k4 := fun d os => cell_regrown k4 d os
  have k5 := fun d os => cell_regrown k5 d os
  refine wp_region_quiet_below (by kernel_rfl) (by kernel_rfl) ?_
  repeat (quiet_step (first | with_reducible exact cx _ _ | with_reducible exact cy _ _ | with_reducible exact cz _ _))
  refine wpQuiet_nil ?_
  intro _ hw'
  obtain ⟨⟨dq, osq⟩, hw''⟩ := hw'
  subst hw''
  have BL := Lib.hid <| hb0.trans ((below_regrown w3 dq osq).mono hb0.size)
  have k0 := k0 dq osq
  have k1 := k1 dq osq
  have k2 := k2 dq osq
  have k3 := k3 dq osq
  clear cx cy cz k4 k5 hb0
  generalize grow (redrawn w3 dq) osq = w4 at *
  go_wp2_with fail
  refine (HV.out _).mono ?_
  clear HV
  rintro e w5 ⟨rfl, hb⟩
  have B5 := Lib.hid (after BL.out hb)
  have k0 := (hb.cell (World.block_lt_of_cell? _ _ k0)).trans k0
  have k1 := (hb.cell (World.block_lt_of_cell? _ _ k1)).trans k1
  have k2 := (hb.cell (World.block_lt_of_cell? _ _ k2)).trans k2
  have k3 := (hb.cell (World.block_lt_of_cell? _ _ k3)).trans k3
  clear hb BL
  go_wp2_with fail
  refine (HW.out _ (HG.out.below B5.out)).mono ?_
  clear HW HG
  rintro e w6 ⟨rfl, hb⟩
  have B6 := Lib.hid (after B5.out hb)
  clear hb B5
  go_wp2_with fail
  go_ret
  exact ⟨rfl, B6.out⟩

open Go.Sort in
set_option maxRecDepth 100000 in
set_option maxHeartbeats 1000000 in
theorem walk_d (a0 a1 b0 b1 c0 c1 y z : Int) (e0 : (a0 == b0) = true) (e1 : (a1 == b1) = false) (el : decide (a0 < b0) = false)
    (hx : ∀ W, Calls Tryd.prog 24 #[.agg #[.int .i64 a0, .int .i64 a1], .agg #[.int .i64 b0, .int .i64 b1]] W fun e w' => e = .returned (.int .i64 (1)) ∧ Below W.heap.size W w')
    (hy : ∀ W, Calls Tryd.prog 24 #[.agg #[.int .i64 b0, .int .i64 b1], .agg #[.int .i64 c0, .int .i64 c1]] W fun e w' => e = .returned (.int .i64 y) ∧ Below W.heap.size W w')
    (hz : ∀ W, Calls Tryd.prog 24 #[.agg #[.int .i64 a0, .int .i64 a1], .agg #[.int .i64 c0, .int .i64 c1]] W fun e w' => e = .returned (.int .i64 z) ∧ Below W.heap.size W w')
    (hv : ∀ W, Calls Tryd.prog 24 #[.agg #[.int .i64 b0, .int .i64 b1], .agg #[.int .i64 a0, .int .i64 a1]] W fun e w' => e = .returned (.int .i64 (-1)) ∧ Below W.heap.size W w')
    (w : World) (hG : Glob w) :
    Calls Tryd.prog 9 #[.agg #[.int .i64 a0, .int .i64 a1], .agg #[.int .i64 b0, .int .i64 b1], .agg #[.int .i64 c0, .int .i64 c1]] w fun e w' => e = .returned (.bool true) ∧ Below w.heap.size w w' := by
  have hW := fun W hG => works_calls W hG
  have HW := Lib.hid hW
  have HG := Lib.hid hG
  have HV := Lib.hid hv
  clear hW hG hv
  go_enter Tryd.func9, Tryd.ntmps9
  have hb0 : Below w.heap.size w (((w.alloc (.cells #[.int .i64 a0, .int .i64 a1] 24)).alloc (.cells #[.int .i64 b0, .int .i64 b1] 24)).alloc (.cells #[.int .i64 c0, .int .i64 c1] 24)) :=
    (((Below.refl _ w).alloc (Nat.le_refl _) _).alloc (by simp) _).alloc (by simp; omega) _
  have k0 := (((Cell.new w #[.int .i64 a0, .int .i64 a1] 24 0 _ rfl).alloc (.cells #[.int .i64 b0, .int .i64 b1] 24)).alloc (.cells #[.int .i64 c0, .int .i64 c1] 24)).1
  have k1 := (((Cell.new w #[.int .i64 a0, .int .i64 a1] 24 1 _ rfl).alloc (.cells #[.int .i64 b0, .int .i64 b1] 24)).alloc (.cells #[.int .i64 c0, .int .i64 c1] 24)).1
  have k2 := ((Cell.new (w.alloc (.cells #[.int .i64 a0, .int .i64 a1] 24)) #[.int .i64 b0, .int .i64 b1] 24 0 _ rfl).alloc (.cells #[.int .i64 c0, .int .i64 c1] 24)).1
  have k3 := ((Cell.new (w.alloc (.cells #[.int .i64 a0, .int .i64 a1] 24)) #[.int .i64 b0, .int .i64 b1] 24 1 _ rfl).alloc (.cells #[.int .i64 c0, .int .i64 c1] 24)).1
  have k4 := (Cell.new ((w.alloc (.cells #[.int .i64 a0, .int .i64 a1] 24)).alloc (.cells #[.int .i64 b0, .int .i64 b1] 24)) #[.int .i64 c0, .int .i64 c1] 24 0 _ rfl).1
  have k5 := (Cell.new ((w.alloc (.cells #[.int .i64 a0, .int .i64 a1] 24)).alloc (.cells #[.int .i64 b0, .int .i64 b1] 24)) #[.int .i64 c0, .int .i64 c1] 24 1 _ rfl).1
  simp only [World.size_alloc] at k2 k3 k4 k5
  go_wp2_with fail
  generalize ((w.alloc (.cells #[.int .i64 a0, .int .i64 a1] 24)).alloc (.cells #[.int .i64 b0, .int .i64 b1] 24)).alloc (.cells #[.int .i64 c0, .int .i64 c1] 24) = w3 at *
  have cx := fun d os => Calls.regrown_of (d := d) (os := os) (hx (grow (redrawn w3 d) os))
  have cy := fun d os => Calls.regrown_of (d := d) (os := os) (hy (grow (redrawn w3 d) os))
  have cz := fun d os => Calls.regrown_of (d := d) (os := os) (hz (grow (redrawn w3 d) os))
  clear hx hy hz
  have k0 := fun d os => cell_regrown k0 d os
  have k1 := fun d os => cell_regrown k1 d os
  have k2 := fun d os => cell_regrown k2 d os
  have k3 := fun d os => cell_regrown k3 d os
  have k4 := fun d os => cell_regrown k4 d os
  have k5 := fun d os => cell_regrown k5 d os
  refine wp_region_quiet_below (by kernel_rfl) (by kernel_rfl) ?_
  repeat (quiet_step (first | with_reducible exact cx _ _ | with_reducible exact cy _ _ | with_reducible exact cz _ _))
  refine wpQuiet_nil ?_
  intro _ hw'
  obtain ⟨⟨dq, osq⟩, hw''⟩ := hw'
  subst hw''
  have BL := Lib.hid <| hb0.trans ((below_regrown w3 dq osq).mono hb0.size)
  have k0 := k0 dq osq
  have k1 := k1 dq osq
  have k2 := k2 dq osq
  have k3 := k3 dq osq
  clear cx cy cz k4 k5 hb0
  generalize grow (redrawn w3 dq) osq = w4 at *
  go_wp2_with fail
  refine (HV.out _).mono ?_
  clear HV
  rintro e w5 ⟨rfl, hb⟩
  have B5 := Lib.hid (after BL.out hb)
  have k0 := (hb.cell (World.block_lt_of_cell? _ _ k0)).trans k0
  have k1 := (hb.cell (World.block_lt_of_cell? _ _ k1)).trans k1
  have k2 := (hb.cell (World.block_lt_of_cell? _ _ k2)).trans k2
  have k3 := (hb.cell (World.block_lt_of_cell? _ _ k3)).trans k3
  clear hb BL
  go_wp2_with fail
  refine (HW.out _ (HG.out.below B5.out)).mono ?_
  clear HW HG
  rintro e w6 ⟨rfl, hb⟩
  have B6 := Lib.hid (after B5.out hb)
  clear hb B5
  go_wp2_with fail
  go_ret
  exact ⟨rfl, B6.out⟩

open Go.Sort in
set_option maxRecDepth 100000 in
set_option maxHeartbeats 1000000 in
theorem walk_e1 (a0 a1 b0 b1 c0 c1 y z : Int) (e0 : (a0 == b0) = true) (e1 : (a1 == b1) = true) (el : decide (a0 < b0) = false) (ey : decide (y ≤ 0) = true) (ez : decide (0 < z) = false)
    (hx : ∀ W, Calls Tryd.prog 24 #[.agg #[.int .i64 a0, .int .i64 a1], .agg #[.int .i64 b0, .int .i64 b1]] W fun e w' => e = .returned (.int .i64 (0)) ∧ Below W.heap.size W w')
    (hy : ∀ W, Calls Tryd.prog 24 #[.agg #[.int .i64 b0, .int .i64 b1], .agg #[.int .i64 c0, .int .i64 c1]] W fun e w' => e = .returned (.int .i64 y) ∧ Below W.heap.size W w')
    (hz : ∀ W, Calls Tryd.prog 24 #[.agg #[.int .i64 a0, .int .i64 a1], .agg #[.int .i64 c0, .int .i64 c1]] W fun e w' => e = .returned (.int .i64 z) ∧ Below W.heap.size W w')
    (hv : ∀ W, Calls Tryd.prog 24 #[.agg #[.int .i64 b0, .int .i64 b1], .agg #[.int .i64 a0, .int .i64 a1]] W fun e w' => e = .returned (.int .i64 (0)) ∧ Below W.heap.size W w')
    (w : World) (hG : Glob w) :
    Calls Tryd.prog 9 #[.agg #[.int .i64 a0, .int .i64 a1], .agg #[.int .i64 b0, .int .i64 b1], .agg #[.int .i64 c0, .int .i64 c1]] w fun e w' => e = .returned (.bool true) ∧ Below w.heap.size w w' := by
  have hW := fun W hG => works_calls W hG
  have HW := Lib.hid hW
  have HG := Lib.hid hG
  have HV := Lib.hid hv
  clear hW hG hv
  go_enter Tryd.func9, Tryd.ntmps9
  have hb0 : Below w.heap.size w (((w.alloc (.cells #[.int .i64 a0, .int .i64 a1] 24)).alloc (.cells #[.int .i64 b0, .int .i64 b1] 24)).alloc (.cells #[.int .i64 c0, .int .i64 c1] 24)) :=
    (((Below.refl _ w).alloc (Nat.le_refl _) _).alloc (by simp) _).alloc (by simp; omega) _
  have k0 := (((Cell.new w #[.int .i64 a0, .int .i64 a1] 24 0 _ rfl).alloc (.cells #[.int .i64 b0, .int .i64 b1] 24)).alloc (.cells #[.int .i64 c0, .int .i64 c1] 24)).1
  have k1 := (((Cell.new w #[.int .i64 a0, .int .i64 a1] 24 1 _ rfl).alloc (.cells #[.int .i64 b0, .int .i64 b1] 24)).alloc (.cells #[.int .i64 c0, .int .i64 c1] 24)).1
  have k2 := ((Cell.new (w.alloc (.cells #[.int .i64 a0, .int .i64 a1] 24)) #[.int .i64 b0, .int .i64 b1] 24 0 _ rfl).alloc (.cells #[.int .i64 c0, .int .i64 c1] 24)).1
  have k3 := ((Cell.new (w.alloc (.cells #[.int .i64 a0, .int .i64 a1] 24)) #[.int .i64 b0, .int .i64 b1] 24 1 _ rfl).alloc (.cells #[.int .i64 c0, .int .i64 c1] 24)).1
  have k4 := (Cell.new ((w.alloc (.cells #[.int .i64 a0, .int .i64 a1] 24)).alloc (.cells #[.int .i64 b0, .int .i64 b1] 24)) #[.int .i64 c0, .int .i64 c1] 24 0 _ rfl).1
  have k5 := (Cell.new ((w.alloc (.cells #[.int .i64 a0, .int .i64 a1] 24)).alloc (.cells #[.int .i64 b0, .int .i64 b1] 24)) #[.int .i64 c0, .int .i64 c1] 24 1 _ rfl).1
  simp only [World.size_alloc] at k2 k3 k4 k5
  go_wp2_with fail
  generalize ((w.alloc (.cells #[.int .i64 a0, .int .i64 a1] 24)).alloc (.cells #[.int .i64 b0, .int .i64 b1] 24)).alloc (.cells #[.int .i64 c0, .int .i64 c1] 24) = w3 at *
  have cx := fun d os => Calls.regrown_of (d := d) (os := os) (hx (grow (redrawn w3 d) os))
  have cy := fun d os => Calls.regrown_of (d := d) (os := os) (hy (grow (redrawn w3 d) os))
  have cz := fun d os => Calls.regrown_of (d := d) (os := os) (hz (grow (redrawn w3 d) os))
  clear hx hy hz
  have k0 := fun d os => cell_regrown k0 d os
  have k1 := fun d os => cell_regrown k1 d os
  have k2 := fun d os => cell_regrown k2 d os
  have k3 := fun d os => cell_regrown k3 d os
  have k4 := fun d os => cell_regrown k4 d os
  have k5 := fun d os => cell_regrown k5 d os
  refine wp_region_quiet_below (by kernel_rfl) (by kernel_rfl) ?_
  repeat (quiet_step (first | with_reducible exact cx _ _ | with_reducible exact cy _ _ | with_reducible exact cz _ _))
  refine wpQuiet_nil ?_
  intro _ hw'
  obtain ⟨⟨dq, osq⟩, hw''⟩ := hw'
  subst hw''
  have BL := Lib.hid <| hb0.trans ((below_regrown w3 dq osq).mono hb0.size)
  have k0 := k0 dq osq
  have k1 := k1 dq osq
  have k2 := k2 dq osq
  have k3 := k3 dq osq
  clear cx cy cz k4 k5 hb0
  generalize grow (redrawn w3 dq) osq = w4 at *
  go_wp2_with fail
  refine (HV.out _).mono ?_
  clear HV
  rintro e w5 ⟨rfl, hb⟩
  have B5 := Lib.hid (after BL.out hb)
  have k0 := (hb.cell (World.block_lt_of_cell? _ _ k0)).trans k0
  have k1 := (hb.cell (World.block_lt_of_cell? _ _ k1)).trans k1
  have k2 := (hb.cell (World.block_lt_of_cell? _ _ k2)).trans k2
  have k3 := (hb.cell (World.block_lt_of_cell? _ _ k3)).trans k3
  clear hb BL
  go_wp2_with fail
  refine (HW.out _ (HG.out.below B5.out)).mono ?_
  clear HW HG
  rintro e w6 ⟨rfl, hb⟩
  have B6 := Lib.hid (after B5.out hb)
  clear hb B5
  go_wp2_with fail
  go_ret
  exact ⟨rfl, B6.out⟩

open Go.Sort in
set_option maxRecDepth 100000 in
set_option maxHeartbeats 1000000 in
theorem walk_e2 (a0 a1 b0 b1 c0 c1 y z : Int) (e0 : (a0 == b0) = true) (e1 : (a1 == b1) = true) (el : decide (a0 < b0) = false) (ey : decide (y ≤ 0) = false)
    (hx : ∀ W, Calls Tryd.prog 24 #[.agg #[.int .i64 a0, .int .i64 a1], .agg #[.int .i64 b0, .int .i64 b1]] W fun e w' => e = .returned (.int .i64 (0)) ∧ Below W.heap.size W w')
    (hy : ∀ W, Calls Tryd.prog 24 #[.agg #[.int .i64 b0, .int .i64 b1], .agg #[.int .i64 c0, .int .i64 c1]] W fun e w' => e = .returned (.int .i64 y) ∧ Below W.heap.size W w')
    (hz : ∀ W, Calls Tryd.prog 24 #[.agg #[.int .i64 a0, .int .i64 a1], .agg #[.int .i64 c0, .int .i64 c1]] W fun e w' => e = .returned (.int .i64 z) ∧ Below W.heap.size W w')
    (hv : ∀ W, Calls Tryd.prog 24 #[.agg #[.int .i64 b0, .int .i64 b1], .agg #[.int .i64 a0, .int .i64 a1]] W fun e w' => e = .returned (.int .i64 (0)) ∧ Below W.heap.size W w')
    (w : World) (hG : Glob w) :
    Calls Tryd.prog 9 #[.agg #[.int .i64 a0, .int .i64 a1], .agg #[.int .i64 b0, .int .i64 b1], .agg #[.int .i64 c0, .int .i64 c1]] w fun e w' => e = .returned (.bool true) ∧ Below w.heap.size w w' := by
  have hW := fun W hG => works_calls W hG
  have HW := Lib.hid hW
  have HG := Lib.hid hG
  have HV := Lib.hid hv
  clear hW hG hv
  go_enter Tryd.func9, Tryd.ntmps9
  have hb0 : Below w.heap.size w (((w.alloc (.cells #[.int .i64 a0, .int .i64 a1] 24)).alloc (.cells #[.int .i64 b0, .int .i64 b1] 24)).alloc (.cells #[.int .i64 c0, .int .i64 c1] 24)) :=
    (((Below.refl _ w).alloc (Nat.le_refl _) _).alloc (by simp) _).alloc (by simp; omega) _
  have k0 := (((Cell.new w #[.int .i64 a0, .int .i64 a1] 24 0 _ rfl).alloc (.cells #[.int .i64 b0, .int .i64 b1] 24)).alloc (.cells #[.int .i64 c0, .int .i64 c1] 24)).1
  have k1 := (((Cell.new w #[.int .i64 a0, .int .i64 a1] 24 1 _ rfl).alloc (.cells #[.int .i64 b0, .int .i64 b1] 24)).alloc (.cells #[.int .i64 c0, .int .i64 c1] 24)).1
  have k2 := ((Cell.new (w.alloc (.cells #[.int .i64 a0, .int .i64 a1] 24)) #[.int .i64 b0, .int .i64 b1] 24 0 _ rfl).alloc (.cells #[.int .i64 c0, .int .i64 c1] 24)).1
  have k3 := ((Cell.new (w.alloc (.cells #[.int .i64 a0, .int .i64 a1] 24)) #[.int .i64 b0, .int .i64 b1] 24 1 _ rfl).alloc (.cells #[.int .i64 c0, .int .i64 c1] 24)).1
  have k4 := (Cell.new ((w.alloc (.cells #[.int .i64 a0, .int .i64 a1] 24)).alloc (.cells #[.int .i64 b0, .int .i64 b1] 24)) #[.int .i64 c0, .int .i64 c1] 24 0 _ rfl).1
  have k5 := (Cell.new ((w.alloc (.cells #[.int .i64 a0, .int .i64 a1] 24)).alloc (.cells #[.int .i64 b0, .int .i64 b1] 24)) #[.int .i64 c0, .int .i64 c1] 24 1 _ rfl).1
  simp only [World.size_alloc] at k2 k3 k4 k5
  go_wp2_with fail
  generalize ((w.alloc (.cells #[.int .i64 a0, .int .i64 a1] 24)).alloc (.cells #[.int .i64 b0, .int .i64 b1] 24)).alloc (.cells #[.int .i64 c0, .int .i64 c1] 24) = w3 at *
  have cx := fun d os => Calls.regrown_of (d := d) (os := os) (hx (grow (redrawn w3 d) os))
  have cy := fun d os => Calls.regrown_of (d := d) (os := os) (hy (grow (redrawn w3 d) os))
  have cz := fun d os => Calls.regrown_of (d := d) (os := os) (hz (grow (redrawn w3 d) os))
  clear hx hy hz
  have k0 := fun d os => cell_regrown k0 d os
  have k1 := fun d os => cell_regrown k1 d os
  have k2 := fun d os => cell_regrown k2 d os
  have k3 := fun d os => cell_regrown k3 d os
  have k4 := fun d os => cell_regrown k4 d os
  have k5 := fun d os => cell_regrown k5 d os
  refine wp_region_quiet_below (by kernel_rfl) (by kernel_rfl) ?_
  repeat (quiet_step (first | with_reducible exact cx _ _ | with_reducible exact cy _ _ | with_reducible exact cz _ _))
  refine wpQuiet_nil ?_
  intro _ hw'
  obtain ⟨⟨dq, osq⟩, hw''⟩ := hw'
  subst hw''
  have BL := Lib.hid <| hb0.trans ((below_regrown w3 dq osq).mono hb0.size)
  have k0 := k0 dq osq
  have k1 := k1 dq osq
  have k2 := k2 dq osq
  have k3 := k3 dq osq
  clear cx cy cz k4 k5 hb0
  generalize grow (redrawn w3 dq) osq = w4 at *
  go_wp2_with fail
  refine (HV.out _).mono ?_
  clear HV
  rintro e w5 ⟨rfl, hb⟩
  have B5 := Lib.hid (after BL.out hb)
  have k0 := (hb.cell (World.block_lt_of_cell? _ _ k0)).trans k0
  have k1 := (hb.cell (World.block_lt_of_cell? _ _ k1)).trans k1
  have k2 := (hb.cell (World.block_lt_of_cell? _ _ k2)).trans k2
  have k3 := (hb.cell (World.block_lt_of_cell? _ _ k3)).trans k3
  clear hb BL
  go_wp2_with fail
  refine (HW.out _ (HG.out.below B5.out)).mono ?_
  clear HW HG
  rintro e w6 ⟨rfl, hb⟩
  have B6 := Lib.hid (after B5.out hb)
  clear hb B5
  go_wp2_with fail
  go_ret
  exact ⟨rfl, B6.out⟩

end Go.Proofs.YthjpcfohpbbacaaDoor.orders
