/-
  The reference's row: its contract. Written by gen3_rhead.py.
-/
import Derived.Test.YthiilnhiihfknaaDoorSHead
import Derived.Test.YthiilnhiihfknaaDoorSRefDepth
namespace Go.Proofs.YthiilnhiihfknaaDoor
open Go Go.RowKit

theorem ret4 {fn : Func} {t u v x : Tmp} (h : fn.results = #[.tmp t, .tmp u, .tmp v, .tmp x]) (tmps : Array Value) (P : Program) (w : World) :
    (results fn tmps).run P w = .ok (.tuple #[tmps.getD t undef, tmps.getD u undef, tmps.getD v undef, tmps.getD x undef]) w := by simp [results, h]
/-- What row gives: whether Name has to be a name, the least and the greatest number of Args. -/
def rowN (k : Int) : Bool := decide (1 ≤ k) && decide (k ≤ 5)
def RowC (k : Int) (nm : Bool) (f m : Nat) : Prop := ∀ w : World, Calls Tryd.prog 106 #[.int .i64 k] w fun e w' => e = .returned (.tuple #[.bool true, .bool nm, .int .i64 (f : Int), .int .i64 (m : Int)]) ∧ w = w'
theorem row_1 : RowC 1 true 0 1 := by
  intro w
  go_enter Tryd.func106, Tryd.ntmps106
  go_wp2_with fail
  refine bodyPost_ret (ret4 rfl _ _ _) rfl ?_
  exact ⟨rfl, rfl⟩
theorem row_2 : RowC 2 true 1 1 := by
  intro w
  go_enter Tryd.func106, Tryd.ntmps106
  go_wp2_with fail
  refine bodyPost_ret (ret4 rfl _ _ _) rfl ?_
  exact ⟨rfl, rfl⟩
theorem row_3 : RowC 3 true 2 2 := by
  intro w
  go_enter Tryd.func106, Tryd.ntmps106
  go_wp2_with fail
  refine bodyPost_ret (ret4 rfl _ _ _) rfl ?_
  exact ⟨rfl, rfl⟩
theorem row_4 : RowC 4 true 1 1 := by
  intro w
  go_enter Tryd.func106, Tryd.ntmps106
  go_wp2_with fail
  refine bodyPost_ret (ret4 rfl _ _ _) rfl ?_
  exact ⟨rfl, rfl⟩
theorem row_5 : RowC 5 true 0 0 := by
  intro w
  go_enter Tryd.func106, Tryd.ntmps106
  go_wp2_with fail
  refine bodyPost_ret (ret4 rfl _ _ _) rfl ?_
  exact ⟨rfl, rfl⟩
theorem row_6 : RowC 6 false 1 1 := by
  intro w
  go_enter Tryd.func106, Tryd.ntmps106
  go_wp2_with fail
  refine bodyPost_ret (ret4 rfl _ _ _) rfl ?_
  exact ⟨rfl, rfl⟩
theorem row_7 : RowC 7 false 0 8 := by
  intro w
  go_enter Tryd.func106, Tryd.ntmps106
  go_wp2_with fail
  refine bodyPost_ret (ret4 rfl _ _ _) rfl ?_
  exact ⟨rfl, rfl⟩
theorem row_8 : RowC 8 false 0 1 := by
  intro w
  go_enter Tryd.func106, Tryd.ntmps106
  go_wp2_with fail
  refine bodyPost_ret (ret4 rfl _ _ _) rfl ?_
  exact ⟨rfl, rfl⟩
theorem row_9 : RowC 9 false 1 1 := by
  intro w
  go_enter Tryd.func106, Tryd.ntmps106
  go_wp2_with fail
  refine bodyPost_ret (ret4 rfl _ _ _) rfl ?_
  exact ⟨rfl, rfl⟩
theorem row_10 : RowC 10 false 1 1 := by
  intro w
  go_enter Tryd.func106, Tryd.ntmps106
  go_wp2_with fail
  refine bodyPost_ret (ret4 rfl _ _ _) rfl ?_
  exact ⟨rfl, rfl⟩
theorem row_none (k : Int) (h : k < 1 ∨ 10 < k) (w : World) : Calls Tryd.prog 106 #[.int .i64 k] w fun e w' => e = .returned (.tuple #[.bool false, .bool false, .int .i64 0, .int .i64 0]) ∧ w = w' := by
  have e1 : (k == 1) = false := by simp; omega
  have e2 : (k == 2) = false := by simp; omega
  have e3 : (k == 3) = false := by simp; omega
  have e4 : (k == 4) = false := by simp; omega
  have e5 : (k == 5) = false := by simp; omega
  have e6 : (k == 6) = false := by simp; omega
  have e7 : (k == 7) = false := by simp; omega
  have e8 : (k == 8) = false := by simp; omega
  have e9 : (k == 9) = false := by simp; omega
  have e10 : (k == 10) = false := by simp; omega
  clear h
  go_enter Tryd.func106, Tryd.ntmps106
  go_wp2_with fail
  refine bodyPost_ret (ret4 rfl _ _ _) rfl ?_
  exact ⟨rfl, rfl⟩
end Go.Proofs.YthiilnhiihfknaaDoor
