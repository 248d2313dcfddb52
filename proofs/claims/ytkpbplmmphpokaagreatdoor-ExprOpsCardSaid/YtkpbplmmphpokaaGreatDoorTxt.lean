/-
  PLAIN LAWS ON TEXTS: the lines of a text, the rows of a text (a line with its number and its offset), and what a cut at one byte gives. No program is named here.
-/
import Derived.Lib.IndexBytes
import Derived.Lib.IndexMore
namespace Go.Proofs.YtkpbplmmphpokaaGreatDoor
open Go

abbrev Bytes := List UInt8

def upTo (c : UInt8) : Bytes → Bytes
  | [] => []
  | b :: r => if b = c then [] else b :: upTo c r
def behind (c : UInt8) : Bytes → Option Bytes
  | [] => none
  | b :: r => if b = c then some r else behind c r

theorem upTo_behind (c : UInt8) (l : Bytes) : l = upTo c l ++ (match behind c l with | none => [] | some r => c :: r) := by
  induction l with
  | nil => rfl
  | cons b r ih =>
    unfold upTo behind
    by_cases h : b = c
    · simp [h]
    · simp only [h, if_false, List.cons_append]
      rw [← ih]
theorem upTo_le (c : UInt8) (l : Bytes) : (upTo c l).length ≤ l.length := by
  have h := congrArg List.length (upTo_behind c l); rw [List.length_append] at h; omega
theorem behind_length {c : UInt8} {l r : Bytes} (h : behind c l = some r) : l.length = (upTo c l).length + 1 + r.length := by
  have e := congrArg List.length (upTo_behind c l)
  rw [h] at e; simp at e; omega
theorem behind_drop {c : UInt8} {l r : Bytes} (h : behind c l = some r) : r = l.drop ((upTo c l).length + 1) := by
  have e := upTo_behind c l
  rw [h] at e
  have : l.drop ((upTo c l).length + 1) = (upTo c l ++ c :: r).drop ((upTo c l).length + 1) := congrArg _ e
  rw [this, List.drop_append]; simp
theorem behind_none {c : UInt8} {l : Bytes} (h : behind c l = none) : upTo c l = l := by
  have e := upTo_behind c l
  rw [h] at e; simpa using e.symm
theorem upTo_take (c : UInt8) (l : Bytes) : upTo c l = l.take (upTo c l).length := by
  have e := upTo_behind c l
  have : l.take (upTo c l).length = (upTo c l ++ (match behind c l with | none => [] | some r => c :: r)).take (upTo c l).length := congrArg _ e
  rw [this]; simp
theorem upTo_free (c : UInt8) (l : Bytes) : c ∉ upTo c l := by
  induction l with
  | nil => simp [upTo]
  | cons b r ih =>
    unfold upTo
    by_cases h : b = c
    · simp [h]
    · simp only [h, if_false, List.mem_cons, not_or]
      exact ⟨fun e => h e.symm, ih⟩
theorem upTo_of {c : UInt8} {p r : Bytes} (h : c ∉ p) : upTo c (p ++ c :: r) = p ∧ behind c (p ++ c :: r) = some r := by
  induction p with
  | nil => simp [upTo, behind]
  | cons b p ih =>
    simp only [List.mem_cons, not_or] at h
    obtain ⟨i1, i2⟩ := ih h.2
    have hb : ¬ b = c := fun e => h.1 e.symm
    constructor
    · rw [List.cons_append, upTo, if_neg hb, i1]
    · rw [List.cons_append, behind, if_neg hb, i2]
theorem upTo_self {c : UInt8} {p : Bytes} (h : c ∉ p) : upTo c p = p ∧ behind c p = none := by
  induction p with
  | nil => simp [upTo, behind]
  | cons b p ih =>
    simp only [List.mem_cons, not_or] at h
    obtain ⟨i1, i2⟩ := ih h.2
    have hb : ¬ b = c := fun e => h.1 e.symm
    exact ⟨by rw [upTo, if_neg hb, i1], by rw [behind, if_neg hb, i2]⟩

/-- The first place of a byte. -/
theorem indexByte_cases (l : Bytes) (c : UInt8) : (Lib.indexByte l c = -1 ∧ behind c l = none) ∨ (Lib.indexByte l c = ((upTo c l).length : Int) ∧ ∃ r, behind c l = some r) := by
  induction l with
  | nil => exact .inl ⟨rfl, rfl⟩
  | cons b r ih =>
    unfold Lib.indexByte upTo behind
    by_cases h : b = c
    · right; simp [h]
    · have hb : (b == c) = false := beq_eq_false_iff_ne.2 h
      simp only [hb, h, if_false, Bool.false_eq_true]
      rcases ih with ⟨i1, i2⟩ | ⟨i1, i2⟩
      · left; simp [i1, i2]
      · right
        refine ⟨?_, i2⟩
        rw [i1]
        have : (((upTo c r).length : Int) == -1) = false := by rw [beq_eq_false_iff_ne]; omega
        simp [this]

/-! ### lines and rows -/
def lines : Bytes → List Bytes
  | [] => [[]]
  | b :: r => if b = 10 then [] :: lines r else match lines r with | [] => [[b]] | h :: t => (b :: h) :: t

theorem lines_ne (l : Bytes) : lines l ≠ [] := by
  cases l with
  | nil => simp [lines]
  | cons b r => unfold lines; split; simp; split <;> simp
theorem lines_eq (l : Bytes) : lines l = upTo 10 l :: (match behind 10 l with | none => [] | some r => lines r) := by
  induction l with
  | nil => rfl
  | cons b r ih =>
    by_cases h : b = 10
    · rw [lines, upTo, behind, if_pos h, if_pos h, if_pos h]
    · rw [lines, upTo, behind, if_neg h, if_neg h, if_neg h, ih]

structure Row where
  num : Nat
  start : Nat
  text : Bytes

def rowsFrom (num start : Nat) : List Bytes → List Row
  | [] => []
  | l :: ls => ⟨num, start, l⟩ :: rowsFrom (num + 1) (start + l.length + 1) ls

def rowsOf (s : Bytes) : List Row := rowsFrom 1 0 (lines s)

theorem rowsFrom_length (ls : List Bytes) : ∀ num start, (rowsFrom num start ls).length = ls.length := by
  induction ls with
  | nil => intros; rfl
  | cons l ls ih => intro num start; simp [rowsFrom, ih]
theorem rowsOf_length (s : Bytes) : (rowsOf s).length = (lines s).length := rowsFrom_length _ _ _

theorem lines_length_le (l : Bytes) : (lines l).length ≤ l.length + 1 := by
  induction l with
  | nil => simp [lines]
  | cons b r ih =>
    unfold lines
    split
    · simpa using ih
    · split
      · simp
      · rename_i h; rw [h] at ih; simp at ih ⊢; omega

/-- WHERE THE ITERATOR STANDS: 'pre' has come; the next row has the number num and begins at st. -/
structure AtRow (s : Bytes) (pre : List Row) (num st : Nat) : Prop where
  all : rowsOf s = pre ++ rowsFrom num st (lines (s.drop st))
  numIs : num = pre.length + 1
  le : st ≤ s.length

theorem AtRow.start (s : Bytes) : AtRow s [] 1 0 := ⟨by simp [rowsOf], rfl, Nat.zero_le _⟩

theorem AtRow.row {s : Bytes} {pre : List Row} {num st : Nat} (h : AtRow s pre num st) :
    ∃ rest, rowsOf s = pre ++ ⟨num, st, upTo 10 (s.drop st)⟩ :: rest ∧ pre.length < (rowsOf s).length := by
  have h1 := h.all
  rw [lines_eq, rowsFrom] at h1
  exact ⟨_, h1, by rw [h1]; simp⟩
theorem AtRow.next {s : Bytes} {pre : List Row} {num st : Nat} {r : Bytes} (h : AtRow s pre num st) (hr : behind 10 (s.drop st) = some r) :
    AtRow s (pre ++ [⟨num, st, upTo 10 (s.drop st)⟩]) (num + 1) (st + (upTo 10 (s.drop st)).length + 1) := by
  have h1 := h.all
  have hl := behind_length hr
  have hd := behind_drop hr
  rw [List.drop_drop] at hd
  rw [lines_eq, rowsFrom, hr] at h1
  simp only [List.length_drop] at hl
  have e : s.drop (st + (upTo 10 (s.drop st)).length + 1) = r := by rw [hd]; congr 1
  refine ⟨?_, by have := h.numIs; simp; omega, by omega⟩
  rw [e, h1]; simp
theorem AtRow.last {s : Bytes} {pre : List Row} {num st : Nat} (h : AtRow s pre num st) (hr : behind 10 (s.drop st) = none) :
    rowsOf s = pre ++ [⟨num, st, upTo 10 (s.drop st)⟩] := by
  have h1 := h.all
  rw [lines_eq, rowsFrom, hr] at h1
  simpa [rowsFrom] using h1

theorem rowsFrom_get (ls : List Bytes) : ∀ (num start k : Nat) (r : Row), (rowsFrom num start ls)[k]? = some r → r.num = num + k ∧ ls[k]? = some r.text := by
  induction ls with
  | nil => intro num start k r h; simp [rowsFrom] at h
  | cons l ls ih =>
    intro num start k r h
    cases k with
    | zero => simp [rowsFrom] at h; subst h; simp
    | succ k =>
      simp [rowsFrom] at h
      obtain ⟨a, b⟩ := ih _ _ _ _ h
      exact ⟨by omega, by simpa using b⟩
theorem rowsOf_num {s : Bytes} {k : Nat} {r : Row} (h : (rowsOf s)[k]? = some r) : r.num = k + 1 ∧ (lines s)[k]? = some r.text := by
  obtain ⟨a, b⟩ := rowsFrom_get _ _ _ _ _ h
  exact ⟨by omega, b⟩

/-- Each row's text stands at its offset: the text is what lies ahead, the line, and either nothing or a line feed and the rest. -/
theorem rowsFrom_start (ls : List Bytes) : ∀ (num start k : Nat) (r : Row), (rowsFrom num start ls)[k]? = some r → r.start = start + ((ls.take k).map (fun l => l.length + 1)).sum := by
  induction ls with
  | nil => intro num start k r h; simp [rowsFrom] at h
  | cons l ls ih =>
    intro num start k r h
    cases k with
    | zero => simp [rowsFrom] at h; subst h; simp
    | succ k =>
      simp [rowsFrom] at h
      have := ih _ _ _ _ h
      simp only [List.take_succ_cons, List.map_cons, List.sum_cons]; omega

theorem lines_sum (s : Bytes) : ((lines s).map (fun l => l.length + 1)).sum = s.length + 1 := by
  induction s with
  | nil => simp [lines]
  | cons b r ih =>
    unfold lines
    split
    · simp [ih]; omega
    · split
      · rename_i h; exact absurd h (lines_ne r)
      · rename_i h; rw [h] at ih; simp at ih ⊢; omega

theorem sum_take_le (ls : List Bytes) (k : Nat) (l : Bytes) (h : ls[k]? = some l) : ((ls.take k).map (fun l => l.length + 1)).sum + l.length + 1 ≤ (ls.map (fun l => l.length + 1)).sum := by
  induction ls generalizing k with
  | nil => simp at h
  | cons x ls ih =>
    cases k with
    | zero => simp at h; subst h; simp only [List.take_zero, List.map_nil, List.sum_nil, List.map_cons, List.sum_cons]; omega
    | succ k => simp at h; have := ih k h; simp only [List.take_succ_cons, List.map_cons, List.sum_cons]; omega

/-- A row ends within the text. -/
theorem rowsOf_end {s : Bytes} {k : Nat} {r : Row} (h : (rowsOf s)[k]? = some r) : r.start + r.text.length ≤ s.length := by
  have h1 := rowsFrom_start _ _ _ _ _ h
  have h2 := sum_take_le _ _ _ (rowsOf_num h).2
  have h3 := lines_sum s
  omega

end Go.Proofs.YtkpbplmmphpokaaGreatDoor
