/-
  number.divide, Do, Negate, and the reference's: contracts.
-/
import Derived.Test.YtfnobkcnopmfnaaDoorNBase
namespace Go.Proofs.YtfnobkcnopmfnaaDoor
open Go Go.RowKit Go.Sort

/-- The result of an operator, and its trap, if the operator is there. -/
def doN (op a b : Int) : Option (Int × Int) :=
  if op = 1 then some (wrap64 (a + b), 0) else if op = 2 then some (wrap64 (a - b), 0) else if op = 3 then some (wrap64 (a * b), 0)
  else if op = 4 then (if b = 0 then some (0, 1) else some (wrap64 (a.tdiv b), 0))
  else if op = 5 then (if b = 0 then some (0, 1) else some (a.tmod b, 0)) else none
def encD : Option (Int × Int) → Value
  | some (v, t) => .tuple #[.int .i64 v, .int .i64 t, .int .i64 0]
  | none => .tuple #[.int .i64 0, .int .i64 0, .int .i64 2]

theorem negate_calls (a : Int) (w : World) :
    Calls Tryd.prog 23 #[.int .i64 a] w fun e w' => e = .returned (.int .i64 (wrap64 (-a))) ∧ w = w' := by
  go_enter Tryd.func23, Tryd.ntmps23
  go_wp2
  go_ret
  exact ⟨rfl, rfl⟩
theorem negate_ref (a : Int) (w : World) :
    Calls Tryd.prog 24 #[.int .i64 a] w fun e w' => e = .returned (.int .i64 (wrap64 (-a))) ∧ w = w' := by
  go_enter Tryd.func24, Tryd.ntmps24
  go_wp2
  go_ret
  exact ⟨rfl, rfl⟩

theorem divide_quo (a b : Int) (w : World) (hb : b ≠ 0) :
    Calls Tryd.prog 31 #[.int .i64 4, .int .i64 a, .int .i64 b] w fun e w' => e = .returned (.tuple #[.int .i64 (wrap64 (a.tdiv b)), .int .i64 0]) ∧ w = w' := by
  have e1 : (b == 0) = false := beq_eq_false_iff_ne.2 hb
  go_enter Tryd.func31, Tryd.ntmps31
  go_wp2
  go_ret2
  exact ⟨rfl, rfl⟩
theorem divide_rem (a b : Int) (w : World) (hb : b ≠ 0) :
    Calls Tryd.prog 31 #[.int .i64 5, .int .i64 a, .int .i64 b] w fun e w' => e = .returned (.tuple #[.int .i64 (a.tmod b), .int .i64 0]) ∧ w = w' := by
  have e1 : (b == 0) = false := beq_eq_false_iff_ne.2 hb
  go_enter Tryd.func31, Tryd.ntmps31
  go_wp2
  go_ret2
  exact ⟨rfl, rfl⟩
theorem divide_0 (op a : Int) (w : World) :
    Calls Tryd.prog 31 #[.int .i64 op, .int .i64 a, .int .i64 0] w fun e w' => e = .returned (.tuple #[.int .i64 0, .int .i64 1]) ∧ w = w' := by
  go_enter Tryd.func31, Tryd.ntmps31
  go_wp2
  go_ret2
  exact ⟨rfl, rfl⟩

set_option maxHeartbeats 2000000 in
theorem do_calls (op a b : Int) (w : World) :
    Calls Tryd.prog 19 #[.int .i64 op, .int .i64 a, .int .i64 b] w fun e w' => e = .returned (encD (doN op a b)) ∧ w = w' := by
  by_cases h1 : op = 1
  · subst h1
    rw [show doN 1 a b = some (wrap64 (a + b), 0) from rfl]
    go_enter Tryd.func19, Tryd.ntmps19
    go_wp2
    go_ret3
    exact ⟨rfl, rfl⟩
  by_cases h2 : op = 2
  · subst h2
    rw [show doN 2 a b = some (wrap64 (a - b), 0) from rfl]
    go_enter Tryd.func19, Tryd.ntmps19
    go_wp2
    go_ret3
    exact ⟨rfl, rfl⟩
  by_cases h3 : op = 3
  · subst h3
    rw [show doN 3 a b = some (wrap64 (a * b), 0) from rfl]
    go_enter Tryd.func19, Tryd.ntmps19
    go_wp2
    go_ret3
    exact ⟨rfl, rfl⟩
  by_cases h4 : op = 4
  · subst h4
    by_cases hb : b = 0
    · subst hb
      rw [show doN 4 a 0 = some (0, 1) from rfl]
      go_enter Tryd.func19, Tryd.ntmps19
      go_wp2_with (go_at_call 31; refine (divide_0 _ _ _).mono ?_; rintro e w' ⟨rfl, rfl⟩)
      go_ret3
      exact ⟨rfl, rfl⟩
    · rw [show doN 4 a b = some (wrap64 (a.tdiv b), 0) by unfold doN; rw [if_neg (by decide), if_neg (by decide), if_neg (by decide), if_pos rfl, if_neg hb]]
      have C := divide_quo a b w hb
      have HB := Lib.hid hb
      clear hb
      go_enter Tryd.func19, Tryd.ntmps19
      go_wp2_with (go_at_call 31; refine C.mono ?_; rintro e w' ⟨rfl, rfl⟩)
      go_ret3
      exact ⟨rfl, rfl⟩
  by_cases h5 : op = 5
  · subst h5
    by_cases hb : b = 0
    · subst hb
      rw [show doN 5 a 0 = some (0, 1) from rfl]
      go_enter Tryd.func19, Tryd.ntmps19
      go_wp2_with (go_at_call 31; refine (divide_0 _ _ _).mono ?_; rintro e w' ⟨rfl, rfl⟩)
      go_ret3
      exact ⟨rfl, rfl⟩
    · rw [show doN 5 a b = some (a.tmod b, 0) by unfold doN; rw [if_neg (by decide), if_neg (by decide), if_neg (by decide), if_neg (by decide), if_pos rfl, if_neg hb]]
      have C := divide_rem a b w hb
      have HB := Lib.hid hb
      clear hb
      go_enter Tryd.func19, Tryd.ntmps19
      go_wp2_with (go_at_call 31; refine C.mono ?_; rintro e w' ⟨rfl, rfl⟩)
      go_ret3
      exact ⟨rfl, rfl⟩
  rw [show doN op a b = none by unfold doN; rw [if_neg h1, if_neg h2, if_neg h3, if_neg h4, if_neg h5]]
  have e1 : (op == 1) = false := beq_eq_false_iff_ne.2 h1
  have e2 : (op == 2) = false := beq_eq_false_iff_ne.2 h2
  have e3 : (op == 3) = false := beq_eq_false_iff_ne.2 h3
  have e4 : (op == 4) = false := beq_eq_false_iff_ne.2 h4
  have e5 : (op == 5) = false := beq_eq_false_iff_ne.2 h5
  clear h1 h2 h3 h4 h5
  go_enter Tryd.func19, Tryd.ntmps19
  go_wp2
  go_ret3
  exact ⟨rfl, rfl⟩

set_option maxHeartbeats 2000000 in
theorem do_ref (op a b : Int) (w : World) :
    Calls Tryd.prog 20 #[.int .i64 op, .int .i64 a, .int .i64 b] w fun e w' => e = .returned (encD (doN op a b)) ∧ w = w' := by
  by_cases h1 : op = 1
  · subst h1
    rw [show doN 1 a b = some (wrap64 (a + b), 0) from rfl]
    go_enter Tryd.func20, Tryd.ntmps20
    go_wp2
    go_ret3
    exact ⟨rfl, rfl⟩
  by_cases h2 : op = 2
  · subst h2
    rw [show doN 2 a b = some (wrap64 (a - b), 0) from rfl]
    go_enter Tryd.func20, Tryd.ntmps20
    go_wp2
    go_ret3
    exact ⟨rfl, rfl⟩
  by_cases h3 : op = 3
  · subst h3
    rw [show doN 3 a b = some (wrap64 (a * b), 0) from rfl]
    go_enter Tryd.func20, Tryd.ntmps20
    go_wp2
    go_ret3
    exact ⟨rfl, rfl⟩
  by_cases h4 : op = 4
  · subst h4
    by_cases hb : b = 0
    · subst hb
      rw [show doN 4 a 0 = some (0, 1) from rfl]
      go_enter Tryd.func20, Tryd.ntmps20
      go_wp2
      go_ret3
      exact ⟨rfl, rfl⟩
    · rw [show doN 4 a b = some (wrap64 (a.tdiv b), 0) by unfold doN; rw [if_neg (by decide), if_neg (by decide), if_neg (by decide), if_pos rfl, if_neg hb]]
      have e1 : (b == 0) = false := beq_eq_false_iff_ne.2 hb
      go_enter Tryd.func20, Tryd.ntmps20
      go_wp2
      go_ret3
      exact ⟨rfl, rfl⟩
  by_cases h5 : op = 5
  · subst h5
    by_cases hb : b = 0
    · subst hb
      rw [show doN 5 a 0 = some (0, 1) from rfl]
      go_enter Tryd.func20, Tryd.ntmps20
      go_wp2
      go_ret3
      exact ⟨rfl, rfl⟩
    · rw [show doN 5 a b = some (a.tmod b, 0) by unfold doN; rw [if_neg (by decide), if_neg (by decide), if_neg (by decide), if_neg (by decide), if_pos rfl, if_neg hb]]
      have e1 : (b == 0) = false := beq_eq_false_iff_ne.2 hb
      go_enter Tryd.func20, Tryd.ntmps20
      go_wp2
      go_ret3
      exact ⟨rfl, rfl⟩
  rw [show doN op a b = none by unfold doN; rw [if_neg h1, if_neg h2, if_neg h3, if_neg h4, if_neg h5]]
  have e1 : (op == 1) = false := beq_eq_false_iff_ne.2 h1
  have e2 : (op == 2) = false := beq_eq_false_iff_ne.2 h2
  have e3 : (op == 3) = false := beq_eq_false_iff_ne.2 h3
  have e4 : (op == 4) = false := beq_eq_false_iff_ne.2 h4
  have e5 : (op == 5) = false := beq_eq_false_iff_ne.2 h5
  clear h1 h2 h3 h4 h5
  go_enter Tryd.func20, Tryd.ntmps20
  go_wp2
  go_ret3
  exact ⟨rfl, rfl⟩

/-- The law's own 'do': the result, and whether there was no trap and no error. -/
theorem do_law (op a b : Int) (w : World) (v t : Int) (h : doN op a b = some (v, t)) :
    Calls Tryd.prog 25 #[.int .i64 op, .int .i64 a, .int .i64 b] w fun e w' => e = .returned (.tuple #[.int .i64 v, .bool (t == 0)]) ∧ w = w' := by
  have C := do_calls op a b w
  rw [h] at C
  simp only [encD] at C
  clear h
  by_cases ht : (t == 0) = true
  · rw [ht]
    go_enter Tryd.func25, Tryd.ntmps25
    go_wp2_with (go_at_call 19; refine C.mono ?_; rintro e w' ⟨rfl, rfl⟩)
    go_ret2
    exact ⟨rfl, rfl⟩
  · have ht : (t == 0) = false := by simpa using ht
    rw [ht]
    go_enter Tryd.func25, Tryd.ntmps25
    go_wp2_with (go_at_call 19; refine C.mono ?_; rintro e w' ⟨rfl, rfl⟩)
    go_ret2
    exact ⟨rfl, rfl⟩
end Go.Proofs.YtfnobkcnopmfnaaDoor
