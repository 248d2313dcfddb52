/-
  place.Compare as one function of four numbers.
-/
import Derived.Test.YthjpcfohpbbacaaDoorMath
import Derived.Test.YthjpcfohpbbacaaDoorText
namespace Go.Proofs.YthjpcfohpbbacaaDoor
open Go Go.RowKit

def cmpP (a0 a1 b0 b1 : Int) : Int := if a0 = b0 then Lib.compareInt a1 b1 else Lib.compareInt a0 b0
theorem cmpP_calls (a0 a1 b0 b1 : Int) (W : World) :
    Calls Tryd.prog 24 #[.agg #[.int .i64 a0, .int .i64 a1], .agg #[.int .i64 b0, .int .i64 b1]] W fun e w' => e = .returned (.int .i64 (cmpP a0 a1 b0 b1)) ∧ Below W.heap.size W w' :=
  compare_calls a0 a1 b0 b1 W
theorem cmpP_lt {a0 a1 b0 b1 : Int} (h : a0 < b0 ∨ a0 = b0 ∧ a1 < b1) : cmpP a0 a1 b0 b1 = -1 := by
  unfold cmpP Lib.compareInt
  repeat' split
  all_goals omega
theorem cmpP_gt {a0 a1 b0 b1 : Int} (h : b0 < a0 ∨ a0 = b0 ∧ b1 < a1) : cmpP a0 a1 b0 b1 = 1 := by
  unfold cmpP Lib.compareInt
  repeat' split
  all_goals omega
theorem cmpP_eq (a0 a1 : Int) : cmpP a0 a1 a0 a1 = 0 := by
  unfold cmpP Lib.compareInt
  repeat' split
  all_goals omega

/-- Rows lie one behind the other. -/
theorem rowsFrom_apart (ls : List Bytes) : ∀ (num st i j : Nat) (r1 r2 : Row), i < j → (rowsFrom num st ls)[i]? = some r1 → (rowsFrom num st ls)[j]? = some r2 → r1.start + r1.text.length + 1 ≤ r2.start := by
  induction ls with
  | nil => intro num st i j r1 r2 _ h; simp [rowsFrom] at h
  | cons l ls ih =>
    intro num st i j r1 r2 hij h1 h2
    rw [rowsFrom] at h1 h2
    cases j with
    | zero => omega
    | succ j =>
      rw [List.getElem?_cons_succ] at h2
      cases i with
      | zero =>
        simp at h1
        subst h1
        exact (rowsFrom_ge _ _ _ _ (List.mem_of_getElem? h2)).1
      | succ i =>
        rw [List.getElem?_cons_succ] at h1
        exact ih _ _ i j _ _ (by omega) h1 h2
/-- The greater offset has the place that is behind. -/
theorem rows_order (s : Bytes) (r1 r2 : Row) (a b : Nat) (h1 : r1 ∈ rowsOf s) (h2 : r2 ∈ rowsOf s) (a1 : r1.start ≤ a) (b2 : b ≤ r2.start + r2.text.length) (hlt : a < b) :
    r1.num < r2.num ∨ r1 = r2 := by
  obtain ⟨i, hi⟩ := List.getElem?_of_mem h1
  obtain ⟨j, hj⟩ := List.getElem?_of_mem h2
  have n1 := (rowsOf_num hi).1
  have n2 := (rowsOf_num hj).1
  by_cases hij : i < j
  · left; omega
  · by_cases he : i = j
    · subst he
      rw [hi] at hj
      exact .inr (Option.some.inj hj)
    · have := rowsFrom_apart _ _ _ j i r2 r1 (by omega) hj hi
      omega
end Go.Proofs.YthjpcfohpbbacaaDoor
