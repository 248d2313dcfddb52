/-
  The reference's Type and Word: contracts. Written by gen6_refw.py.
-/
import Derived.Test.YtoldhocdfkndbaaGreatDoorTWord
namespace Go.Proofs.YtoldhocdfkndbaaGreatDoor.E6
open Go Go.RowKit Go.Proofs.YtoldhocdfkndbaaGreatDoor Go.Proofs.YtoldhocdfkndbaaGreatDoor.E5

set_option maxRecDepth 100000 in
theorem reftype_0 (s : Bytes) (q0 : (s == [105, 110, 116]) = true) (w : World) :
    Calls Tryz.prog 45 #[.string (B s)] w fun e w' => e = .returned (.int .i64 1) ∧ Below w.heap.size w w' := by
  go_enter Tryz.func45, Tryz.ntmps45
  go_wp2_with fail
  go_ret
  exact ⟨rfl, Below.refl _ _⟩
set_option maxRecDepth 100000 in
theorem reftype_1 (s : Bytes) (q0 : (s == [105, 110, 116]) = false) (q1 : (s == [98, 111, 111, 108]) = true) (w : World) :
    Calls Tryz.prog 45 #[.string (B s)] w fun e w' => e = .returned (.int .i64 2) ∧ Below w.heap.size w w' := by
  go_enter Tryz.func45, Tryz.ntmps45
  go_wp2_with fail
  go_ret
  exact ⟨rfl, Below.refl _ _⟩
set_option maxRecDepth 100000 in
theorem reftype_2 (s : Bytes) (q0 : (s == [105, 110, 116]) = false) (q1 : (s == [98, 111, 111, 108]) = false) (q2 : (s == [97, 114, 114, 97, 121]) = true) (w : World) :
    Calls Tryz.prog 45 #[.string (B s)] w fun e w' => e = .returned (.int .i64 3) ∧ Below w.heap.size w w' := by
  go_enter Tryz.func45, Tryz.ntmps45
  go_wp2_with fail
  go_ret
  exact ⟨rfl, Below.refl _ _⟩
set_option maxRecDepth 100000 in
theorem reftype_3 (s : Bytes) (q0 : (s == [105, 110, 116]) = false) (q1 : (s == [98, 111, 111, 108]) = false) (q2 : (s == [97, 114, 114, 97, 121]) = false) (w : World) :
    Calls Tryz.prog 45 #[.string (B s)] w fun e w' => e = .returned (.int .i64 0) ∧ Below w.heap.size w w' := by
  go_enter Tryz.func45, Tryz.ntmps45
  go_wp2_with fail
  go_ret
  exact ⟨rfl, Below.refl _ _⟩
theorem reftype_calls (s : Bytes) (w : World) :
    Calls Tryz.prog 45 #[.string (B s)] w fun e w' => e = .returned (.int .i64 (typW s)) ∧ Below w.heap.size w w' := by
  have ne : ∀ {p q : Bytes}, p ≠ q → (p == q) = false := fun h => beq_eq_false_iff_ne.2 h
  by_cases h1 : s = wInt
  · subst h1; exact reftype_0 wInt (by decide) w
  by_cases h2 : s = wBool
  · subst h2; exact reftype_1 wBool (by decide) (by decide) w
  by_cases h3 : s = wArray
  · subst h3; exact reftype_2 wArray (by decide) (by decide) (by decide) w
  · have e : typW s = 0 := by unfold typW; rw [if_neg h1, if_neg h2, if_neg h3]
    rw [e]
    exact reftype_3 s (ne h1) (ne h2) (ne h3) w
set_option maxRecDepth 100000 in
theorem refword_0 (t : Int) (q0 : (t == 1) = true) (w : World) :
    Calls Tryz.prog 47 #[.int .i64 t] w fun e w' => e = .returned (.string (B wInt)) ∧ Below w.heap.size w w' := by
  go_enter Tryz.func47, Tryz.ntmps47
  go_wp2_with fail
  go_ret
  exact ⟨rfl, Below.refl _ _⟩
set_option maxRecDepth 100000 in
theorem refword_1 (t : Int) (q0 : (t == 1) = false) (q1 : (t == 2) = true) (w : World) :
    Calls Tryz.prog 47 #[.int .i64 t] w fun e w' => e = .returned (.string (B wBool)) ∧ Below w.heap.size w w' := by
  go_enter Tryz.func47, Tryz.ntmps47
  go_wp2_with fail
  go_ret
  exact ⟨rfl, Below.refl _ _⟩
set_option maxRecDepth 100000 in
theorem refword_2 (t : Int) (q0 : (t == 1) = false) (q1 : (t == 2) = false) (q2 : (t == 3) = true) (w : World) :
    Calls Tryz.prog 47 #[.int .i64 t] w fun e w' => e = .returned (.string (B wArray)) ∧ Below w.heap.size w w' := by
  go_enter Tryz.func47, Tryz.ntmps47
  go_wp2_with fail
  go_ret
  exact ⟨rfl, Below.refl _ _⟩
set_option maxRecDepth 100000 in
theorem refword_3 (t : Int) (q0 : (t == 1) = false) (q1 : (t == 2) = false) (q2 : (t == 3) = false) (w : World) :
    Calls Tryz.prog 47 #[.int .i64 t] w fun e w' => e = .returned (.string (B [])) ∧ Below w.heap.size w w' := by
  go_enter Tryz.func47, Tryz.ntmps47
  go_wp2_with fail
  go_ret
  exact ⟨rfl, Below.refl _ _⟩
theorem refword_calls (t : Int) (w : World) :
    Calls Tryz.prog 47 #[.int .i64 t] w fun e w' => e = .returned (.string (B (wordT t))) ∧ Below w.heap.size w w' := by
  have ne : ∀ {p q : Int}, p ≠ q → (p == q) = false := fun h => beq_eq_false_iff_ne.2 h
  by_cases h1 : t = 1
  · subst h1; exact refword_0 1 (by decide) w
  by_cases h2 : t = 2
  · subst h2; exact refword_1 2 (by decide) (by decide) w
  by_cases h3 : t = 3
  · subst h3; exact refword_2 3 (by decide) (by decide) (by decide) w
  · have e : wordT t = [] := by unfold wordT; rw [if_neg h1, if_neg h2, if_neg h3]
    rw [e]
    exact refword_3 t (ne h1) (ne h2) (ne h3) w
end Go.Proofs.YtoldhocdfkndbaaGreatDoor.E6
