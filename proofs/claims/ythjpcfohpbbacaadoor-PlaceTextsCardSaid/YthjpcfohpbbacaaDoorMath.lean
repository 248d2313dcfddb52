/-
  PLAIN LAWS ON ROWS: which row an offset is in, which row a number has, where a row stands in its text. No program is named here.
-/
import Derived.Test.YthjpcfohpbbacaaDoorOf
namespace Go.Proofs.YthjpcfohpbbacaaDoor
open Go

theorem rowsFrom_ge (ls : List Bytes) : ∀ (num st : Nat) (r : Row), r ∈ rowsFrom num st ls → st ≤ r.start ∧ num ≤ r.num := by
  induction ls with
  | nil => intro num st r h; simp [rowsFrom] at h
  | cons l ls ih =>
    intro num st r h
    rw [rowsFrom, List.mem_cons] at h
    rcases h with rfl | h
    · exact ⟨Nat.le_refl _, Nat.le_refl _⟩
    · have := ih _ _ _ h; omega

theorem find_row (ls : List Bytes) : ∀ (num st : Nat) (r : Row) (o : Int), r ∈ rowsFrom num st ls → (r.start : Int) ≤ o → o ≤ r.start + r.text.length →
    (rowsFrom num st ls).find? (fun r => decide (o ≤ r.start + r.text.length)) = some r := by
  induction ls with
  | nil => intro num st r o h; simp [rowsFrom] at h
  | cons l ls ih =>
    intro num st r o h h1 h2
    rw [rowsFrom, List.mem_cons] at h
    rw [rowsFrom, List.find?_cons]
    rcases h with rfl | h
    · simp only [decide_eq_true h2]
    · have h3 := (rowsFrom_ge _ _ _ _ h).1
      have : decide (o ≤ (st : Int) + l.length) = false := by simp; omega
      simp only [this]
      exact ih _ _ _ _ h h1 h2
theorem find_start (ls : List Bytes) : ∀ (num st : Nat) (r : Row) (o : Int), (st : Int) ≤ o →
    (rowsFrom num st ls).find? (fun r => decide (o ≤ r.start + r.text.length)) = some r → (r.start : Int) ≤ o ∧ o ≤ r.start + r.text.length := by
  induction ls with
  | nil => intro num st r o _ h; simp [rowsFrom] at h
  | cons l ls ih =>
    intro num st r o ho h
    rw [rowsFrom, List.find?_cons] at h
    by_cases hc : o ≤ (st : Int) + l.length
    · simp only [decide_eq_true hc] at h
      cases h
      exact ⟨ho, hc⟩
    · have : decide (o ≤ (st : Int) + l.length) = false := by simpa using hc
      simp only [this] at h
      exact ih _ _ _ _ (by omega) h
theorem find_some (ls : List Bytes) : ∀ (num st : Nat) (o : Int), o + 1 ≤ ((st + (ls.map (fun l : Bytes => l.length + 1)).sum : Nat) : Int) → ls ≠ [] →
    ∃ r, (rowsFrom num st ls).find? (fun r => decide (o ≤ r.start + r.text.length)) = some r := by
  induction ls with
  | nil => intro num st o _ h; exact absurd rfl h
  | cons l ls ih =>
    intro num st o ho _
    rw [rowsFrom, List.find?_cons]
    by_cases hc : o ≤ (st : Int) + l.length
    · exact ⟨⟨num, st, l⟩, by simp only [decide_eq_true hc]⟩
    · have : decide (o ≤ (st : Int) + l.length) = false := by simpa using hc
      simp only [this]
      cases ls with
      | nil => simp at ho; omega
      | cons l' ls' => exact ih _ _ _ (by simp only [List.map_cons, List.sum_cons] at ho ⊢; omega) (by simp)

/-- The row of an offset. -/
theorem ofRow_some (s : Bytes) (o : Int) (h0 : 0 ≤ o) (h1 : o ≤ s.length) : ∃ r, ofRow s o = some r ∧ r ∈ rowsOf s ∧ (r.start : Int) ≤ o ∧ o ≤ r.start + r.text.length := by
  have hs := lines_sum s
  obtain ⟨r, hr⟩ := find_some (lines s) 1 0 o (by omega) (lines_ne s)
  have := find_start _ _ _ _ _ (by omega) hr
  exact ⟨r, hr, List.mem_of_find?_eq_some hr, this.1, this.2⟩
theorem ofRow_of (s : Bytes) (r : Row) (o : Int) (hr : r ∈ rowsOf s) (h1 : (r.start : Int) ≤ o) (h2 : o ≤ r.start + r.text.length) : ofRow s o = some r :=
  find_row _ _ _ _ _ hr h1 h2
theorem ofRow_none (s : Bytes) (o : Int) (h1 : (s.length : Int) < o) : ofRow s o = none := by
  unfold ofRow
  rw [List.find?_eq_none]
  intro r hr
  obtain ⟨k, hk⟩ := List.getElem?_of_mem hr
  have := rowsOf_end hk
  simp; omega

/-- The row with a number. -/
theorem rowAt_get (s : Bytes) (k : Nat) (r : Row) (h : (rowsOf s)[k]? = some r) : rowAt s ((k : Int) + 1) = some r := by
  unfold rowAt
  obtain ⟨hlt, he⟩ := List.getElem?_eq_some_iff.1 h
  have hsplit : rowsOf s = (rowsOf s).take k ++ r :: (rowsOf s).drop (k + 1) := by
    rw [← he, ← List.drop_eq_getElem_cons hlt, List.take_append_drop]
  rw [hsplit, List.find?_append, List.find?_eq_none.2, List.find?_cons]
  · have := (rowsOf_num h).1
    simp [this]
  · intro x hx
    obtain ⟨j, hj⟩ := List.getElem?_of_mem hx
    rw [List.getElem?_take] at hj
    split at hj
    · have := (rowsOf_num hj).1
      simp; omega
    · cases hj
theorem rowAt_mem (s : Bytes) (n : Int) (r : Row) (h : rowAt s n = some r) : r ∈ rowsOf s ∧ (r.num : Int) = n :=
  ⟨List.mem_of_find?_eq_some h, by have := List.find?_some h; simpa using this⟩
theorem rowAt_of (s : Bytes) (r : Row) (hr : r ∈ rowsOf s) : rowAt s r.num = some r := by
  obtain ⟨k, hk⟩ := List.getElem?_of_mem hr
  have h1 := (rowsOf_num hk).1
  have := rowAt_get s k r hk
  rw [h1]
  simpa using this
theorem rowAt_none (s : Bytes) (n : Int) (h : n < 1 ∨ ((lines s).length : Int) < n) : rowAt s n = none := by
  unfold rowAt
  rw [List.find?_eq_none]
  intro r hr
  obtain ⟨k, hk⟩ := List.getElem?_of_mem hr
  have h1 := (rowsOf_num hk).1
  have h2 := (List.getElem?_eq_some_iff.1 hk).1
  rw [rowsOf_length] at h2
  simp; omega
theorem rowAt_line (s : Bytes) (k : Nat) (l : Bytes) (h : (lines s)[k]? = some l) : ∃ r, rowAt s ((k : Int) + 1) = some r ∧ r.text = l ∧ r ∈ rowsOf s := by
  have hk := (List.getElem?_eq_some_iff.1 h).1
  rw [← rowsOf_length] at hk
  have h1 : (rowsOf s)[k]? = some (rowsOf s)[k] := List.getElem?_eq_getElem hk
  refine ⟨_, rowAt_get s k _ h1, ?_, List.getElem_mem hk⟩
  have := (rowsOf_num h1).2
  rw [h] at this
  exact (Option.some.inj this).symm

/-- WHERE A ROW STANDS IN ITS TEXT. -/
structure StandsIn (s : Bytes) (r : Row) (p q : Bytes) : Prop where
  parts : s = p ++ r.text ++ q
  start : p.length = r.start
  num : r.num = p.count 10 + 1
  ahead : p = [] ∨ ∃ p', p = p' ++ [10]
  free : 10 ∉ r.text
  behind : q = [] ∨ ∃ q', q = 10 :: q'

theorem rows_stand (n : Nat) : ∀ (s p : Bytes), s.length ≤ n → (p = [] ∨ ∃ p', p = p' ++ [10]) → ∀ r ∈ rowsFrom (p.count 10 + 1) p.length (lines s), ∃ p' q, StandsIn (p ++ s) r p' q := by
  induction n with
  | zero =>
    intro s p hn hp r hr
    have : s = [] := List.length_eq_zero_iff.1 (by omega)
    subst this
    rw [lines, rowsFrom, rowsFrom, List.mem_singleton] at hr
    subst hr
    exact ⟨p, [], by simp, rfl, rfl, hp, by simp, .inl rfl⟩
  | succ n ih =>
    intro s p hn hp r hr
    rw [lines_eq, rowsFrom, List.mem_cons] at hr
    have hparts := upTo_behind 10 s
    rcases hr with rfl | hr
    · cases hb : behind 10 s with
      | none =>
        rw [hb] at hparts
        refine ⟨p, [], ?_, rfl, rfl, hp, upTo_free _ _, .inl rfl⟩
        simp only [List.append_nil] at hparts ⊢
        rw [← hparts]
      | some t =>
        rw [hb] at hparts
        refine ⟨p, 10 :: t, ?_, rfl, rfl, hp, upTo_free _ _, .inr ⟨t, rfl⟩⟩
        rw [List.append_assoc, ← hparts]
    · cases hb : behind 10 s with
      | none => rw [hb] at hr; simp [rowsFrom] at hr
      | some t =>
        rw [hb] at hr hparts
        have hlen := behind_length hb
        have hfree : (upTo 10 s).count 10 = 0 := List.count_eq_zero.2 (upTo_free _ _)
        have e1 : (p ++ upTo 10 s ++ [10]).count 10 + 1 = p.count 10 + 1 + 1 := by simp [hfree]
        have e2 : (p ++ upTo 10 s ++ [10]).length = p.length + (upTo 10 s).length + 1 := by simp; omega
        obtain ⟨p', q, h⟩ := ih t (p ++ upTo 10 s ++ [10]) (by omega) (.inr ⟨_, rfl⟩) r (by rw [e1, e2]; exact hr)
        refine ⟨p', q, ?_⟩
        have e3 : p ++ upTo 10 s ++ [10] ++ t = p ++ s := by
          simp only at hparts
          rw [List.append_assoc, List.append_assoc, List.singleton_append, ← hparts]
        rwa [e3] at h
theorem row_stands (s : Bytes) (r : Row) (h : r ∈ rowsOf s) : ∃ p q, StandsIn s r p q := by
  have := rows_stand s.length s [] (Nat.le_refl _) (.inl rfl) r (by simpa [rowsOf] using h)
  simpa using this
end Go.Proofs.YthjpcfohpbbacaaDoor
