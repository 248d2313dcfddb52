/-
  number.Compare and the reference's: contracts.
-/
import Derived.Test.YtfnobkcnopmfnaaDoorNBase
import Derived.Outline
import Derived.Laws.EntriesVeiled
import Derived.LoopTactic
namespace Go.Proofs.YtfnobkcnopmfnaaDoor
open Go Go.RowKit Go.Sort

/-- The result of a comparison, if there is one of that number. -/
def cmpN (op a b : Int) : Option Bool :=
  if op = 6 then some (a == b) else if op = 7 then some (a != b) else if op = 8 then some (decide (a < b))
  else if op = 9 then some (decide (a ≤ b)) else if op = 10 then some (decide (b < a)) else if op = 11 then some (decide (b ≤ a)) else none
def encC : Option Bool → Value
  | some x => .tuple #[.bool x, .int .i64 0]
  | none => .tuple #[.bool false, .int .i64 2]
theorem cmpN_none {op a b : Int} (h : op < 6 ∨ 11 < op) : cmpN op a b = none := by
  unfold cmpN
  rw [if_neg (by omega), if_neg (by omega), if_neg (by omega), if_neg (by omega), if_neg (by omega), if_neg (by omega)]

/-- The table: an operator, and the function that says whether it holds. -/
def cmpTab : Value := .agg #[.int .i64 6, .func (.func 37) #[] #[], .int .i64 7, .func (.func 38) #[] #[], .int .i64 8, .func (.func 39) #[] #[], .int .i64 9, .func (.func 40) #[] #[], .int .i64 10, .func (.func 41) #[] #[], .int .i64 11, .func (.func 42) #[] #[]]
theorem tab_0 : ∀ w : World, (Instr.index 62 cmpTab (.int .i64 0)).run Tryd.prog w = .ok (.agg #[.int .i64 6, .func (.func 37) #[] #[]]) w := fun _ => by kernel_rfl
theorem tab_1 : ∀ w : World, (Instr.index 62 cmpTab (.int .i64 1)).run Tryd.prog w = .ok (.agg #[.int .i64 7, .func (.func 38) #[] #[]]) w := fun _ => by kernel_rfl
theorem tab_2 : ∀ w : World, (Instr.index 62 cmpTab (.int .i64 2)).run Tryd.prog w = .ok (.agg #[.int .i64 8, .func (.func 39) #[] #[]]) w := fun _ => by kernel_rfl
theorem tab_3 : ∀ w : World, (Instr.index 62 cmpTab (.int .i64 3)).run Tryd.prog w = .ok (.agg #[.int .i64 9, .func (.func 40) #[] #[]]) w := fun _ => by kernel_rfl
theorem tab_4 : ∀ w : World, (Instr.index 62 cmpTab (.int .i64 4)).run Tryd.prog w = .ok (.agg #[.int .i64 10, .func (.func 41) #[] #[]]) w := fun _ => by kernel_rfl
theorem tab_5 : ∀ w : World, (Instr.index 62 cmpTab (.int .i64 5)).run Tryd.prog w = .ok (.agg #[.int .i64 11, .func (.func 42) #[] #[]]) w := fun _ => by kernel_rfl
set_option maxRecDepth 100000 in
theorem table_calls (w : World) : Calls Tryd.prog 32 #[] w fun e w' => e = .returned cmpTab ∧ Below w.heap.size w w' := by
  go_enter Tryd.func32, Tryd.ntmps32
  go_wp2
  exact bodyPost_ret (v := cmpTab) (by unfold cmpTab; simp [results, Tryd.results32, go_sem]) rfl ⟨rfl, (Below.refl _ w).alloc (Nat.le_refl _) _⟩

set_option maxRecDepth 100000 in
set_option maxHeartbeats 2000000 in
theorem compare_6 (a b : Int) (w : World) :
    Calls Tryd.prog 21 #[.int .i64 6, .int .i64 a, .int .i64 b] w fun e w' => e = .returned (encC (cmpN 6 a b)) ∧ Below w.heap.size w w' := by
  rw [show cmpN 6 a b = some (a == b) from rfl]
  have t0 := tab_0
  go_enter Tryd.func21, Tryd.ntmps21
  go_wp2_with fail
  refine (table_calls _).mono ?_
  rintro e w1 ⟨rfl, hb⟩
  have hz := hb.size
  go_wp2_with fail
  refine wp_loop_rounds 1 ?_
  rw [rounds_succ]
  go_wp2
  go_ret2
  exact ⟨rfl, by repeat (first | exact hb | (refine Below.alloc ?_ (by first | omega | (simp; omega)) _))⟩

set_option maxRecDepth 100000 in
set_option maxHeartbeats 2000000 in
theorem compare_7 (a b : Int) (w : World) :
    Calls Tryd.prog 21 #[.int .i64 7, .int .i64 a, .int .i64 b] w fun e w' => e = .returned (encC (cmpN 7 a b)) ∧ Below w.heap.size w w' := by
  rw [show cmpN 7 a b = some (a != b) from rfl]
  have t0 := tab_0
  have t1 := tab_1
  go_enter Tryd.func21, Tryd.ntmps21
  go_wp2_with fail
  refine (table_calls _).mono ?_
  rintro e w1 ⟨rfl, hb⟩
  have hz := hb.size
  go_wp2_with fail
  refine wp_loop_rounds 2 ?_
  rw [rounds_succ]
  go_wp2
  rw [rounds_succ]
  go_wp2
  go_ret2
  exact ⟨rfl, by repeat (first | exact hb | (refine Below.alloc ?_ (by first | omega | (simp; omega)) _))⟩

set_option maxRecDepth 100000 in
set_option maxHeartbeats 2000000 in
theorem compare_8 (a b : Int) (w : World) :
    Calls Tryd.prog 21 #[.int .i64 8, .int .i64 a, .int .i64 b] w fun e w' => e = .returned (encC (cmpN 8 a b)) ∧ Below w.heap.size w w' := by
  rw [show cmpN 8 a b = some (decide (a < b)) from rfl]
  have t0 := tab_0
  have t1 := tab_1
  have t2 := tab_2
  go_enter Tryd.func21, Tryd.ntmps21
  go_wp2_with fail
  refine (table_calls _).mono ?_
  rintro e w1 ⟨rfl, hb⟩
  have hz := hb.size
  go_wp2_with fail
  refine wp_loop_rounds 3 ?_
  rw [rounds_succ]
  go_wp2
  rw [rounds_succ]
  go_wp2
  rw [rounds_succ]
  go_wp2
  go_ret2
  exact ⟨rfl, by repeat (first | exact hb | (refine Below.alloc ?_ (by first | omega | (simp; omega)) _))⟩

set_option maxRecDepth 100000 in
set_option maxHeartbeats 2000000 in
theorem compare_9 (a b : Int) (w : World) :
    Calls Tryd.prog 21 #[.int .i64 9, .int .i64 a, .int .i64 b] w fun e w' => e = .returned (encC (cmpN 9 a b)) ∧ Below w.heap.size w w' := by
  rw [show cmpN 9 a b = some (decide (a ≤ b)) from rfl]
  have t0 := tab_0
  have t1 := tab_1
  have t2 := tab_2
  have t3 := tab_3
  go_enter Tryd.func21, Tryd.ntmps21
  go_wp2_with fail
  refine (table_calls _).mono ?_
  rintro e w1 ⟨rfl, hb⟩
  have hz := hb.size
  go_wp2_with fail
  refine wp_loop_rounds 4 ?_
  rw [rounds_succ]
  go_wp2
  rw [rounds_succ]
  go_wp2
  rw [rounds_succ]
  go_wp2
  rw [rounds_succ]
  go_wp2
  go_ret2
  exact ⟨rfl, by repeat (first | exact hb | (refine Below.alloc ?_ (by first | omega | (simp; omega)) _))⟩

set_option maxRecDepth 100000 in
set_option maxHeartbeats 2000000 in
theorem compare_10 (a b : Int) (w : World) :
    Calls Tryd.prog 21 #[.int .i64 10, .int .i64 a, .int .i64 b] w fun e w' => e = .returned (encC (cmpN 10 a b)) ∧ Below w.heap.size w w' := by
  rw [show cmpN 10 a b = some (decide (b < a)) from rfl]
  have t0 := tab_0
  have t1 := tab_1
  have t2 := tab_2
  have t3 := tab_3
  have t4 := tab_4
  go_enter Tryd.func21, Tryd.ntmps21
  go_wp2_with fail
  refine (table_calls _).mono ?_
  rintro e w1 ⟨rfl, hb⟩
  have hz := hb.size
  go_wp2_with fail
  refine wp_loop_rounds 5 ?_
  rw [rounds_succ]
  go_wp2
  rw [rounds_succ]
  go_wp2
  rw [rounds_succ]
  go_wp2
  rw [rounds_succ]
  go_wp2
  rw [rounds_succ]
  go_wp2
  go_ret2
  exact ⟨rfl, by repeat (first | exact hb | (refine Below.alloc ?_ (by first | omega | (simp; omega)) _))⟩

set_option maxRecDepth 100000 in
set_option maxHeartbeats 2000000 in
theorem compare_11 (a b : Int) (w : World) :
    Calls Tryd.prog 21 #[.int .i64 11, .int .i64 a, .int .i64 b] w fun e w' => e = .returned (encC (cmpN 11 a b)) ∧ Below w.heap.size w w' := by
  rw [show cmpN 11 a b = some (decide (b ≤ a)) from rfl]
  have t0 := tab_0
  have t1 := tab_1
  have t2 := tab_2
  have t3 := tab_3
  have t4 := tab_4
  have t5 := tab_5
  go_enter Tryd.func21, Tryd.ntmps21
  go_wp2_with fail
  refine (table_calls _).mono ?_
  rintro e w1 ⟨rfl, hb⟩
  have hz := hb.size
  go_wp2_with fail
  refine wp_loop_rounds 6 ?_
  rw [rounds_succ]
  go_wp2
  rw [rounds_succ]
  go_wp2
  rw [rounds_succ]
  go_wp2
  rw [rounds_succ]
  go_wp2
  rw [rounds_succ]
  go_wp2
  rw [rounds_succ]
  go_wp2
  go_ret2
  exact ⟨rfl, by repeat (first | exact hb | (refine Below.alloc ?_ (by first | omega | (simp; omega)) _))⟩

set_option maxRecDepth 100000 in
set_option maxHeartbeats 2000000 in
theorem compare_none (op a b : Int) (w : World) (h : op < 6 ∨ 11 < op) :
    Calls Tryd.prog 21 #[.int .i64 op, .int .i64 a, .int .i64 b] w fun e w' => e = .returned (encC none) ∧ Below w.heap.size w w' := by
  have t0 := tab_0
  have e0 : ((6 : Int) == op) = false := by simp; omega
  have t1 := tab_1
  have e1 : ((7 : Int) == op) = false := by simp; omega
  have t2 := tab_2
  have e2 : ((8 : Int) == op) = false := by simp; omega
  have t3 := tab_3
  have e3 : ((9 : Int) == op) = false := by simp; omega
  have t4 := tab_4
  have e4 : ((10 : Int) == op) = false := by simp; omega
  have t5 := tab_5
  have e5 : ((11 : Int) == op) = false := by simp; omega
  clear h
  go_enter Tryd.func21, Tryd.ntmps21
  go_wp2_with fail
  refine (table_calls _).mono ?_
  rintro e w1 ⟨rfl, hb⟩
  have hz := hb.size
  go_wp2_with fail
  refine wp_loop_rounds 7 ?_
  rw [rounds_succ]
  go_wp2
  rw [rounds_succ]
  go_wp2
  rw [rounds_succ]
  go_wp2
  rw [rounds_succ]
  go_wp2
  rw [rounds_succ]
  go_wp2
  rw [rounds_succ]
  go_wp2
  rw [rounds_succ]
  go_wp2
  go_ret2
  exact ⟨rfl, by repeat (first | exact hb | (refine Below.alloc ?_ (by first | omega | (simp; omega)) _))⟩
theorem compare_calls (op a b : Int) (w : World) :
    Calls Tryd.prog 21 #[.int .i64 op, .int .i64 a, .int .i64 b] w fun e w' => e = .returned (encC (cmpN op a b)) ∧ Below w.heap.size w w' := by
  by_cases h0 : op < 6 ∨ 11 < op
  · rw [cmpN_none h0]; exact compare_none op a b w h0
  obtain rfl | rfl | rfl | rfl | rfl | rfl : op = 6 ∨ op = 7 ∨ op = 8 ∨ op = 9 ∨ op = 10 ∨ op = 11 := by omega
  · exact compare_6 a b w
  · exact compare_7 a b w
  · exact compare_8 a b w
  · exact compare_9 a b w
  · exact compare_10 a b w
  · exact compare_11 a b w

set_option maxHeartbeats 2000000 in
theorem compare_ref (op a b : Int) (w : World) :
    Calls Tryd.prog 22 #[.int .i64 op, .int .i64 a, .int .i64 b] w fun e w' => e = .returned (encC (cmpN op a b)) ∧ w = w' := by
  by_cases h1 : op = 6
  · subst h1
    rw [show cmpN 6 a b = some (a == b) from rfl]
    go_enter Tryd.func22, Tryd.ntmps22
    go_wp2
    go_ret2
    exact ⟨rfl, rfl⟩
  by_cases h2 : op = 7
  · subst h2
    rw [show cmpN 7 a b = some (a != b) from rfl]
    go_enter Tryd.func22, Tryd.ntmps22
    go_wp2
    go_ret2
    exact ⟨rfl, rfl⟩
  by_cases h3 : op = 8
  · subst h3
    rw [show cmpN 8 a b = some (decide (a < b)) from rfl]
    go_enter Tryd.func22, Tryd.ntmps22
    go_wp2
    go_ret2
    exact ⟨rfl, rfl⟩
  by_cases h4 : op = 9
  · subst h4
    rw [show cmpN 9 a b = some (decide (a ≤ b)) from rfl]
    go_enter Tryd.func22, Tryd.ntmps22
    go_wp2
    go_ret2
    exact ⟨rfl, rfl⟩
  by_cases h5 : op = 10
  · subst h5
    rw [show cmpN 10 a b = some (decide (b < a)) from rfl]
    go_enter Tryd.func22, Tryd.ntmps22
    go_wp2
    go_ret2
    exact ⟨rfl, rfl⟩
  by_cases h6 : op = 11
  · subst h6
    rw [show cmpN 11 a b = some (decide (b ≤ a)) from rfl]
    go_enter Tryd.func22, Tryd.ntmps22
    go_wp2
    go_ret2
    exact ⟨rfl, rfl⟩
  rw [show cmpN op a b = none by unfold cmpN; rw [if_neg h1, if_neg h2, if_neg h3, if_neg h4, if_neg h5, if_neg h6]]
  have e1 : (op == 6) = false := beq_eq_false_iff_ne.2 h1
  have e2 : (op == 7) = false := beq_eq_false_iff_ne.2 h2
  have e3 : (op == 8) = false := beq_eq_false_iff_ne.2 h3
  have e4 : (op == 9) = false := beq_eq_false_iff_ne.2 h4
  have e5 : (op == 10) = false := beq_eq_false_iff_ne.2 h5
  have e6 : (op == 11) = false := beq_eq_false_iff_ne.2 h6
  clear h1 h2 h3 h4 h5 h6
  go_enter Tryd.func22, Tryd.ntmps22
  go_wp2
  go_ret2
  exact ⟨rfl, rfl⟩
end Go.Proofs.YtfnobkcnopmfnaaDoor
