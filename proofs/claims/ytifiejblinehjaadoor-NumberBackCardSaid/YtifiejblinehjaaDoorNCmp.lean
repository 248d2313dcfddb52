/-
  number.Compare and the reference's: contracts.
-/
import Derived.Test.YtifiejblinehjaaDoorNBase
import Derived.Outline
import Derived.Laws.EntriesVeiled
namespace Go.Proofs.YtifiejblinehjaaDoor
open Go Go.RowKit Go.Sort

/-- The result of a comparison, if there is one of that number. -/
def cmpN (op a b : Int) : Option Bool :=
  if op = 6 then some (a == b) else if op = 7 then some (a != b) else if op = 8 then some (decide (a < b))
  else if op = 9 then some (decide (a ≤ b)) else if op = 10 then some (decide (b < a)) else if op = 11 then some (decide (b ≤ a)) else none
def encC : Option Bool → Value
  | some x => .tuple #[.bool x, .int .i64 0]
  | none => .tuple #[.bool false, .int .i64 2]
theorem cmpN_none {op a b : Int} (h : op < 6 ∨ 11 < op) : cmpN op a b = none := by
  unfold cmpN
  rw [if_neg (by omega), if_neg (by omega), if_neg (by omega), if_neg (by omega), if_neg (by omega), if_neg (by omega)]

set_option maxRecDepth 100000 in
set_option maxHeartbeats 2000000 in
theorem compare_low (op a b : Int) (w : World) (h : op < 6) :
    Calls Tryd.prog 21 #[.int .i64 op, .int .i64 a, .int .i64 b] w fun e w' => e = .returned (encC none) ∧ Below w.heap.size w w' := by
  have e1 : decide (op < 6) = true := by simpa using h
  go_enter Tryd.func21, Tryd.ntmps21
  go_wp2
  go_ret2
  exact ⟨rfl, ((Below.refl _ w).alloc (Nat.le_refl _) _).alloc (by simp) _⟩
set_option maxRecDepth 100000 in
set_option maxHeartbeats 2000000 in
theorem compare_high (op a b : Int) (w : World) (h : 11 < op) :
    Calls Tryd.prog 21 #[.int .i64 op, .int .i64 a, .int .i64 b] w fun e w' => e = .returned (encC none) ∧ Below w.heap.size w w' := by
  have e0 : decide (op < 6) = false := by simp; omega
  have e1 : decide (11 < op) = true := by simpa using h
  go_enter Tryd.func21, Tryd.ntmps21
  go_wp2
  go_ret2
  exact ⟨rfl, ((Below.refl _ w).alloc (Nat.le_refl _) _).alloc (by simp) _⟩

set_option maxRecDepth 100000 in
set_option maxHeartbeats 2000000 in
theorem compare_6 (a b : Int) (w : World) :
    Calls Tryd.prog 21 #[.int .i64 6, .int .i64 a, .int .i64 b] w fun e w' => e = .returned (encC (cmpN 6 a b)) ∧ Below w.heap.size w w' := by
  rw [show cmpN 6 a b = some (a == b) from rfl]
  go_enter Tryd.func21, Tryd.ntmps21
  go_wp2
  go_ret2
  exact ⟨rfl, (((Below.refl _ w).alloc (Nat.le_refl _) _).alloc (by simp) _).alloc (by simp; omega) _⟩
set_option maxRecDepth 100000 in
set_option maxHeartbeats 2000000 in
theorem compare_7 (a b : Int) (w : World) :
    Calls Tryd.prog 21 #[.int .i64 7, .int .i64 a, .int .i64 b] w fun e w' => e = .returned (encC (cmpN 7 a b)) ∧ Below w.heap.size w w' := by
  rw [show cmpN 7 a b = some (a != b) from rfl]
  go_enter Tryd.func21, Tryd.ntmps21
  go_wp2
  go_ret2
  exact ⟨rfl, (((Below.refl _ w).alloc (Nat.le_refl _) _).alloc (by simp) _).alloc (by simp; omega) _⟩
set_option maxRecDepth 100000 in
set_option maxHeartbeats 2000000 in
theorem compare_8 (a b : Int) (w : World) :
    Calls Tryd.prog 21 #[.int .i64 8, .int .i64 a, .int .i64 b] w fun e w' => e = .returned (encC (cmpN 8 a b)) ∧ Below w.heap.size w w' := by
  rw [show cmpN 8 a b = some (decide (a < b)) from rfl]
  go_enter Tryd.func21, Tryd.ntmps21
  go_wp2
  go_ret2
  exact ⟨rfl, (((Below.refl _ w).alloc (Nat.le_refl _) _).alloc (by simp) _).alloc (by simp; omega) _⟩
set_option maxRecDepth 100000 in
set_option maxHeartbeats 2000000 in
theorem compare_9 (a b : Int) (w : World) :
    Calls Tryd.prog 21 #[.int .i64 9, .int .i64 a, .int .i64 b] w fun e w' => e = .returned (encC (cmpN 9 a b)) ∧ Below w.heap.size w w' := by
  rw [show cmpN 9 a b = some (decide (a ≤ b)) from rfl]
  go_enter Tryd.func21, Tryd.ntmps21
  go_wp2
  go_ret2
  exact ⟨rfl, (((Below.refl _ w).alloc (Nat.le_refl _) _).alloc (by simp) _).alloc (by simp; omega) _⟩
set_option maxRecDepth 100000 in
set_option maxHeartbeats 2000000 in
theorem compare_10 (a b : Int) (w : World) :
    Calls Tryd.prog 21 #[.int .i64 10, .int .i64 a, .int .i64 b] w fun e w' => e = .returned (encC (cmpN 10 a b)) ∧ Below w.heap.size w w' := by
  rw [show cmpN 10 a b = some (decide (b < a)) from rfl]
  go_enter Tryd.func21, Tryd.ntmps21
  go_wp2
  go_ret2
  exact ⟨rfl, (((Below.refl _ w).alloc (Nat.le_refl _) _).alloc (by simp) _).alloc (by simp; omega) _⟩
set_option maxRecDepth 100000 in
set_option maxHeartbeats 2000000 in
theorem compare_11 (a b : Int) (w : World) :
    Calls Tryd.prog 21 #[.int .i64 11, .int .i64 a, .int .i64 b] w fun e w' => e = .returned (encC (cmpN 11 a b)) ∧ Below w.heap.size w w' := by
  rw [show cmpN 11 a b = some (decide (b ≤ a)) from rfl]
  go_enter Tryd.func21, Tryd.ntmps21
  go_wp2
  go_ret2
  exact ⟨rfl, (((Below.refl _ w).alloc (Nat.le_refl _) _).alloc (by simp) _).alloc (by simp; omega) _⟩
theorem compare_calls (op a b : Int) (w : World) :
    Calls Tryd.prog 21 #[.int .i64 op, .int .i64 a, .int .i64 b] w fun e w' => e = .returned (encC (cmpN op a b)) ∧ Below w.heap.size w w' := by
  by_cases h1 : op < 6
  · rw [cmpN_none (.inl h1)]; exact compare_low op a b w h1
  by_cases h2 : 11 < op
  · rw [cmpN_none (.inr h2)]; exact compare_high op a b w h2
  obtain rfl | rfl | rfl | rfl | rfl | rfl : op = 6 ∨ op = 7 ∨ op = 8 ∨ op = 9 ∨ op = 10 ∨ op = 11 := by omega
  · exact compare_6 a b w
  · exact compare_7 a b w
  · exact compare_8 a b w
  · exact compare_9 a b w
  · exact compare_10 a b w
  · exact compare_11 a b w

set_option maxHeartbeats 2000000 in
theorem compare_ref (op a b : Int) (w : World) :
    Calls Tryd.prog 22 #[.int .i64 op, .int .i64 a, .int .i64 b] w fun e w' => e = .returned (encC (cmpN op a b)) ∧ w = w' := by
  by_cases h1 : op = 6
  · subst h1
    rw [show cmpN 6 a b = some (a == b) from rfl]
    go_enter Tryd.func22, Tryd.ntmps22
    go_wp2
    go_ret2
    exact ⟨rfl, rfl⟩
  by_cases h2 : op = 7
  · subst h2
    rw [show cmpN 7 a b = some (a != b) from rfl]
    go_enter Tryd.func22, Tryd.ntmps22
    go_wp2
    go_ret2
    exact ⟨rfl, rfl⟩
  by_cases h3 : op = 8
  · subst h3
    rw [show cmpN 8 a b = some (decide (a < b)) from rfl]
    go_enter Tryd.func22, Tryd.ntmps22
    go_wp2
    go_ret2
    exact ⟨rfl, rfl⟩
  by_cases h4 : op = 9
  · subst h4
    rw [show cmpN 9 a b = some (decide (a ≤ b)) from rfl]
    go_enter Tryd.func22, Tryd.ntmps22
    go_wp2
    go_ret2
    exact ⟨rfl, rfl⟩
  by_cases h5 : op = 10
  · subst h5
    rw [show cmpN 10 a b = some (decide (b < a)) from rfl]
    go_enter Tryd.func22, Tryd.ntmps22
    go_wp2
    go_ret2
    exact ⟨rfl, rfl⟩
  by_cases h6 : op = 11
  · subst h6
    rw [show cmpN 11 a b = some (decide (b ≤ a)) from rfl]
    go_enter Tryd.func22, Tryd.ntmps22
    go_wp2
    go_ret2
    exact ⟨rfl, rfl⟩
  rw [show cmpN op a b = none by unfold cmpN; rw [if_neg h1, if_neg h2, if_neg h3, if_neg h4, if_neg h5, if_neg h6]]
  have e1 : (op == 6) = false := beq_eq_false_iff_ne.2 h1
  have e2 : (op == 7) = false := beq_eq_false_iff_ne.2 h2
  have e3 : (op == 8) = false := beq_eq_false_iff_ne.2 h3
  have e4 : (op == 9) = false := beq_eq_false_iff_ne.2 h4
  have e5 : (op == 10) = false := beq_eq_false_iff_ne.2 h5
  have e6 : (op == 11) = false := beq_eq_false_iff_ne.2 h6
  clear h1 h2 h3 h4 h5 h6
  go_enter Tryd.func22, Tryd.ntmps22
  go_wp2
  go_ret2
  exact ⟨rfl, rfl⟩
end Go.Proofs.YtifiejblinehjaaDoor
