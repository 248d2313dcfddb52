/-
  LINES OF A TEXT: their number, their join, no line feed in them. No program is named here.
-/
import Derived.Test.YthjpcfohpbbacaaDoorTxt
import Derived.Lib.Join
namespace Go.Proofs.YthjpcfohpbbacaaDoor
open Go

theorem lines_count (l : Bytes) : (lines l).length = l.count 10 + 1 := by
  induction l with
  | nil => rfl
  | cons b r ih =>
    unfold lines
    by_cases h : b = 10
    · rw [if_pos h, h, List.count_cons_self, List.length_cons, ih]
    · rw [if_neg h, List.count_cons_of_ne h, ← ih]
      cases h2 : lines r with
      | nil => exact absurd h2 (lines_ne r)
      | cons x t => rfl
theorem lines_free (l : Bytes) : ∀ x ∈ lines l, (10 : UInt8) ∉ x := by
  induction l with
  | nil => intro x hx; simp [lines] at hx; subst hx; simp
  | cons b r ih =>
    unfold lines
    by_cases h : b = 10
    · rw [if_pos h]
      intro x hx
      rcases List.mem_cons.1 hx with h1 | h1
      · subst h1; simp
      · exact ih x h1
    · rw [if_neg h]
      cases h2 : lines r with
      | nil => exact absurd h2 (lines_ne r)
      | cons y t =>
        intro x hx
        rw [h2] at ih
        rcases List.mem_cons.1 hx with h1 | h1
        · subst h1
          have := ih y (by simp)
          simp only [List.mem_cons, not_or]
          exact ⟨fun e => h e.symm, this⟩
        · exact ih x (List.mem_cons_of_mem _ h1)
theorem lines_join (l : Bytes) : Lib.join (lines l) [10] = l := by
  unfold Lib.join
  induction l with
  | nil => rfl
  | cons b r ih =>
    unfold lines
    cases h2 : lines r with
    | nil => exact absurd h2 (lines_ne r)
    | cons y t =>
      rw [h2] at ih
      by_cases h : b = 10
      · rw [if_pos h, h]
        conv => rhs; rw [← ih]
        simp [List.intercalate]
      · rw [if_neg h]
        conv => rhs; rw [← ih]
        cases t <;> simp [List.intercalate]
theorem not_in (l : Bytes) (h : (10 : UInt8) ∉ l) : decide (0 ≤ Lib.indexByte l 10) = false := by
  rcases indexByte_cases l 10 with h1 | ⟨_, r, h1⟩
  · rw [h1.1]; rfl
  · rw [(upTo_self h).2] at h1; cases h1
end Go.Proofs.YthjpcfohpbbacaaDoor
