/-
  PLAIN LAWS ON TEXTS: the lines of a text, the rows of a text (a line with its number and its offset), and what a cut at one byte gives. No program is named here.
  PLAIN LAWS ON DECIMAL NUMERALS. No program is named here.
-/
import Derived.Lib.IndexBytes
import Derived.Lib.IndexMore
import Derived.Lib.ItoaMem
import Derived.Lib.AtoiAllCases
namespace Go.Proofs.YtoldhocdfkndbaaGreatDoor
open Go

abbrev Bytes := List UInt8

def upTo (c : UInt8) : Bytes → Bytes
  | [] => []
  | b :: r => if b = c then [] else b :: upTo c r
def behind (c : UInt8) : Bytes → Option Bytes
  | [] => none
  | b :: r => if b = c then some r else behind c r

theorem upTo_behind (c : UInt8) (l : Bytes) : l = upTo c l ++ (match behind c l with | none => [] | some r => c :: r) := by
  induction l with
  | nil => rfl
  | cons b r ih =>
    unfold upTo behind
    by_cases h : b = c
    · simp [h]
    · simp only [h, if_false, List.cons_append]
      rw [← ih]
theorem upTo_le (c : UInt8) (l : Bytes) : (upTo c l).length ≤ l.length := by
  have h := congrArg List.length (upTo_behind c l); rw [List.length_append] at h; omega
theorem behind_length {c : UInt8} {l r : Bytes} (h : behind c l = some r) : l.length = (upTo c l).length + 1 + r.length := by
  have e := congrArg List.length (upTo_behind c l)
  rw [h] at e; simp at e; omega
theorem behind_drop {c : UInt8} {l r : Bytes} (h : behind c l = some r) : r = l.drop ((upTo c l).length + 1) := by
  have e := upTo_behind c l
  rw [h] at e
  have : l.drop ((upTo c l).length + 1) = (upTo c l ++ c :: r).drop ((upTo c l).length + 1) := congrArg _ e
  rw [this, List.drop_append]; simp
theorem behind_none {c : UInt8} {l : Bytes} (h : behind c l = none) : upTo c l = l := by
  have e := upTo_behind c l
  rw [h] at e; simpa using e.symm
theorem upTo_take (c : UInt8) (l : Bytes) : upTo c l = l.take (upTo c l).length := by
  have e := upTo_behind c l
  have : l.take (upTo c l).length = (upTo c l ++ (match behind c l with | none => [] | some r => c :: r)).take (upTo c l).length := congrArg _ e
  rw [this]; simp
theorem upTo_free (c : UInt8) (l : Bytes) : c ∉ upTo c l := by
  induction l with
  | nil => simp [upTo]
  | cons b r ih =>
    unfold upTo
    by_cases h : b = c
    · simp [h]
    · simp only [h, if_false, List.mem_cons, not_or]
      exact ⟨fun e => h e.symm, ih⟩
theorem upTo_of {c : UInt8} {p r : Bytes} (h : c ∉ p) : upTo c (p ++ c :: r) = p ∧ behind c (p ++ c :: r) = some r := by
  induction p with
  | nil => simp [upTo, behind]
  | cons b p ih =>
    simp only [List.mem_cons, not_or] at h
    obtain ⟨i1, i2⟩ := ih h.2
    have hb : ¬ b = c := fun e => h.1 e.symm
    constructor
    · rw [List.cons_append, upTo, if_neg hb, i1]
    · rw [List.cons_append, behind, if_neg hb, i2]
theorem upTo_self {c : UInt8} {p : Bytes} (h : c ∉ p) : upTo c p = p ∧ behind c p = none := by
  induction p with
  | nil => simp [upTo, behind]
  | cons b p ih =>
    simp only [List.mem_cons, not_or] at h
    obtain ⟨i1, i2⟩ := ih h.2
    have hb : ¬ b = c := fun e => h.1 e.symm
    exact ⟨by rw [upTo, if_neg hb, i1], by rw [behind, if_neg hb, i2]⟩

/-- The first place of a byte. -/
theorem indexByte_cases (l : Bytes) (c : UInt8) : (Lib.indexByte l c = -1 ∧ behind c l = none) ∨ (Lib.indexByte l c = ((upTo c l).length : Int) ∧ ∃ r, behind c l = some r) := by
  induction l with
  | nil => exact .inl ⟨rfl, rfl⟩
  | cons b r ih =>
    unfold Lib.indexByte upTo behind
    by_cases h : b = c
    · right; simp [h]
    · have hb : (b == c) = false := beq_eq_false_iff_ne.2 h
      simp only [hb, h, if_false, Bool.false_eq_true]
      rcases ih with ⟨i1, i2⟩ | ⟨i1, i2⟩
      · left; simp [i1, i2]
      · right
        refine ⟨?_, i2⟩
        rw [i1]
        have : (((upTo c r).length : Int) == -1) = false := by rw [beq_eq_false_iff_ne]; omega
        simp [this]

/-! ### lines and rows -/
def lines : Bytes → List Bytes
  | [] => [[]]
  | b :: r => if b = 10 then [] :: lines r else match lines r with | [] => [[b]] | h :: t => (b :: h) :: t

theorem lines_ne (l : Bytes) : lines l ≠ [] := by
  cases l with
  | nil => simp [lines]
  | cons b r => unfold lines; split; simp; split <;> simp
theorem lines_eq (l : Bytes) : lines l = upTo 10 l :: (match behind 10 l with | none => [] | some r => lines r) := by
  induction l with
  | nil => rfl
  | cons b r ih =>
    by_cases h : b = 10
    · rw [lines, upTo, behind, if_pos h, if_pos h, if_pos h]
    · rw [lines, upTo, behind, if_neg h, if_neg h, if_neg h, ih]

structure Row where
  num : Nat
  start : Nat
  text : Bytes

def rowsFrom (num start : Nat) : List Bytes → List Row
  | [] => []
  | l :: ls => ⟨num, start, l⟩ :: rowsFrom (num + 1) (start + l.length + 1) ls

def rowsOf (s : Bytes) : List Row := rowsFrom 1 0 (lines s)

theorem rowsFrom_length (ls : List Bytes) : ∀ num start, (rowsFrom num start ls).length = ls.length := by
  induction ls with
  | nil => intros; rfl
  | cons l ls ih => intro num start; simp [rowsFrom, ih]
theorem rowsOf_length (s : Bytes) : (rowsOf s).length = (lines s).length := rowsFrom_length _ _ _

theorem lines_length_le (l : Bytes) : (lines l).length ≤ l.length + 1 := by
  induction l with
  | nil => simp [lines]
  | cons b r ih =>
    unfold lines
    split
    · simpa using ih
    · split
      · simp
      · rename_i h; rw [h] at ih; simp at ih ⊢; omega

/-- WHERE THE ITERATOR STANDS: 'pre' has come; the next row has the number num and begins at st. -/
structure AtRow (s : Bytes) (pre : List Row) (num st : Nat) : Prop where
  all : rowsOf s = pre ++ rowsFrom num st (lines (s.drop st))
  numIs : num = pre.length + 1
  le : st ≤ s.length

theorem AtRow.start (s : Bytes) : AtRow s [] 1 0 := ⟨by simp [rowsOf], rfl, Nat.zero_le _⟩

theorem AtRow.row {s : Bytes} {pre : List Row} {num st : Nat} (h : AtRow s pre num st) :
    ∃ rest, rowsOf s = pre ++ ⟨num, st, upTo 10 (s.drop st)⟩ :: rest ∧ pre.length < (rowsOf s).length := by
  have h1 := h.all
  rw [lines_eq, rowsFrom] at h1
  exact ⟨_, h1, by rw [h1]; simp⟩
theorem AtRow.next {s : Bytes} {pre : List Row} {num st : Nat} {r : Bytes} (h : AtRow s pre num st) (hr : behind 10 (s.drop st) = some r) :
    AtRow s (pre ++ [⟨num, st, upTo 10 (s.drop st)⟩]) (num + 1) (st + (upTo 10 (s.drop st)).length + 1) := by
  have h1 := h.all
  have hl := behind_length hr
  have hd := behind_drop hr
  rw [List.drop_drop] at hd
  rw [lines_eq, rowsFrom, hr] at h1
  simp only [List.length_drop] at hl
  have e : s.drop (st + (upTo 10 (s.drop st)).length + 1) = r := by rw [hd]; congr 1
  refine ⟨?_, by have := h.numIs; simp; omega, by omega⟩
  rw [e, h1]; simp
theorem AtRow.last {s : Bytes} {pre : List Row} {num st : Nat} (h : AtRow s pre num st) (hr : behind 10 (s.drop st) = none) :
    rowsOf s = pre ++ [⟨num, st, upTo 10 (s.drop st)⟩] := by
  have h1 := h.all
  rw [lines_eq, rowsFrom, hr] at h1
  simpa [rowsFrom] using h1

theorem rowsFrom_get (ls : List Bytes) : ∀ (num start k : Nat) (r : Row), (rowsFrom num start ls)[k]? = some r → r.num = num + k ∧ ls[k]? = some r.text := by
  induction ls with
  | nil => intro num start k r h; simp [rowsFrom] at h
  | cons l ls ih =>
    intro num start k r h
    cases k with
    | zero => simp [rowsFrom] at h; subst h; simp
    | succ k =>
      simp [rowsFrom] at h
      obtain ⟨a, b⟩ := ih _ _ _ _ h
      exact ⟨by omega, by simpa using b⟩
theorem rowsOf_num {s : Bytes} {k : Nat} {r : Row} (h : (rowsOf s)[k]? = some r) : r.num = k + 1 ∧ (lines s)[k]? = some r.text := by
  obtain ⟨a, b⟩ := rowsFrom_get _ _ _ _ _ h
  exact ⟨by omega, b⟩

/-- Each row's text stands at its offset: the text is what lies ahead, the line, and either nothing or a line feed and the rest. -/
theorem rowsFrom_start (ls : List Bytes) : ∀ (num start k : Nat) (r : Row), (rowsFrom num start ls)[k]? = some r → r.start = start + ((ls.take k).map (fun l => l.length + 1)).sum := by
  induction ls with
  | nil => intro num start k r h; simp [rowsFrom] at h
  | cons l ls ih =>
    intro num start k r h
    cases k with
    | zero => simp [rowsFrom] at h; subst h; simp
    | succ k =>
      simp [rowsFrom] at h
      have := ih _ _ _ _ h
      simp only [List.take_succ_cons, List.map_cons, List.sum_cons]; omega

theorem lines_sum (s : Bytes) : ((lines s).map (fun l => l.length + 1)).sum = s.length + 1 := by
  induction s with
  | nil => simp [lines]
  | cons b r ih =>
    unfold lines
    split
    · simp [ih]; omega
    · split
      · rename_i h; exact absurd h (lines_ne r)
      · rename_i h; rw [h] at ih; simp at ih ⊢; omega

theorem sum_take_le (ls : List Bytes) (k : Nat) (l : Bytes) (h : ls[k]? = some l) : ((ls.take k).map (fun l => l.length + 1)).sum + l.length + 1 ≤ (ls.map (fun l => l.length + 1)).sum := by
  induction ls generalizing k with
  | nil => simp at h
  | cons x ls ih =>
    cases k with
    | zero => simp at h; subst h; simp only [List.take_zero, List.map_nil, List.sum_nil, List.map_cons, List.sum_cons]; omega
    | succ k => simp at h; have := ih k h; simp only [List.take_succ_cons, List.map_cons, List.sum_cons]; omega

/-- A row ends within the text. -/
theorem rowsOf_end {s : Bytes} {k : Nat} {r : Row} (h : (rowsOf s)[k]? = some r) : r.start + r.text.length ≤ s.length := by
  have h1 := rowsFrom_start _ _ _ _ _ h
  have h2 := sum_take_le _ _ _ (rowsOf_num h).2
  have h3 := lines_sum s
  omega

end Go.Proofs.YtoldhocdfkndbaaGreatDoor

namespace Go.Proofs.YtoldhocdfkndbaaGreatDoor
open Go

def isDig (c : UInt8) : Prop := 48 ≤ c.toNat ∧ c.toNat ≤ 57

theorem digOf (k : Nat) (h : k < 10) : (UInt8.ofNat (48 + k)).toNat = 48 + k := by
  rw [UInt8.toNat_ofNat']; omega

theorem decDigits_dig (u : Nat) : ∀ c ∈ Lib.decDigits u, isDig c := by
  induction u using Nat.strongRecOn with
  | _ u ih =>
    intro c hc
    rw [Lib.decDigits] at hc
    by_cases h : u < 10
    · rw [dif_pos h, List.mem_singleton] at hc
      subst hc
      unfold isDig
      rw [digOf u h]; omega
    · rw [dif_neg h, List.mem_append, List.mem_singleton] at hc
      rcases hc with hc | hc
      · exact ih _ (by omega) c hc
      · subst hc
        unfold isDig
        rw [digOf _ (by omega)]; omega

theorem decDigits_ne (u : Nat) : Lib.decDigits u ≠ [] := by
  intro h
  have := congrArg List.length h
  rw [Lib.decDigits_length] at this
  have := Lib.nDigits_pos u
  simp at *
  omega

/-- What a row of digits adds to what stands ahead of it. -/
def numAt (acc : Nat) (l : Bytes) : Nat := l.foldl (fun a c => 10 * a + (c.toNat - 48)) acc

theorem numAt_cons (acc : Nat) (c : UInt8) (l : Bytes) : numAt acc (c :: l) = numAt (10 * acc + (c.toNat - 48)) l := by unfold numAt; rw [List.foldl_cons]
theorem numAt_one (acc : Nat) (c : UInt8) : numAt acc [c] = 10 * acc + (c.toNat - 48) := by rw [numAt_cons]; unfold numAt; rw [List.foldl_nil]
theorem numAt_append (acc : Nat) (a b : Bytes) : numAt acc (a ++ b) = numAt (numAt acc a) b := by simp [numAt]
theorem numAt_ge (l : Bytes) : ∀ acc, acc ≤ numAt acc l := by
  induction l with
  | nil => intro acc; exact Nat.le_refl _
  | cons c l ih => intro acc; rw [numAt_cons]; have := ih (10 * acc + (c.toNat - 48)); omega
theorem numAt_dec (u : Nat) : numAt 0 (Lib.decDigits u) = u := by
  induction u using Nat.strongRecOn with
  | _ u ih =>
    rw [Lib.decDigits]
    by_cases h : u < 10
    · rw [dif_pos h, numAt_one, digOf u h]
      omega
    · rw [dif_neg h, numAt_append, ih (u / 10) (by omega), numAt_one, digOf (u % 10) (by omega)]
      omega

theorem parse_ok (l : Bytes) : ∀ acc, (∀ c ∈ l, isDig c) → numAt acc l < 18446744073709551616 → Lib.parseUint10 acc l = .ok (numAt acc l) := by
  induction l with
  | nil => intro acc _ _; rfl
  | cons c l ih =>
    intro acc hd hn
    have hc : isDig c := hd c (by simp)
    unfold isDig at hc
    rw [numAt_cons] at hn ⊢
    have hge := numAt_ge l (10 * acc + (c.toNat - 48))
    have he : acc * 10 + (c.toNat - 48) = 10 * acc + (c.toNat - 48) := by omega
    unfold Lib.parseUint10
    rw [if_pos hc, if_neg (by omega), if_neg (by omega), he]
    exact ih _ (fun x hx => hd x (by simp [hx])) hn

theorem itoa_nn (n : Nat) : Lib.itoa (n : Int) = Lib.decDigits n := by
  unfold Lib.itoa
  rw [if_neg (by omega), Int.toNat_natCast]

/-- strconv.Atoi finds a number again from its numeral. -/
theorem atoi_itoa (n : Nat) (h : n ≤ 9223372036854775807) : Lib.atoiAll (Lib.itoa (n : Int)) = .ok (n : Int) := by
  rw [itoa_nn]
  have hdig := decDigits_dig n
  have hp := parse_ok (Lib.decDigits n) 0 hdig (by rw [numAt_dec]; omega)
  rw [numAt_dec] at hp
  cases hl : Lib.decDigits n with
  | nil => exact absurd hl (decDigits_ne n)
  | cons c r =>
    rw [hl] at hp hdig
    have hc : isDig c := hdig c (by simp)
    unfold isDig at hc
    unfold Lib.atoiAll
    simp only
    rw [if_neg (by omega)]
    unfold Lib.parseMag
    rw [if_neg (by simp), hp]
    simp only
    rw [if_neg (by omega), if_neg (by omega), if_neg (by omega)]

/-- The numeral has no colon. -/
theorem itoa_free (n : Nat) (c : UInt8) (h : ¬ isDig c) : c ∉ Lib.itoa (n : Int) := by
  rw [itoa_nn]
  exact fun hc => h (decDigits_dig n c hc)

/-- A reader of digits that gives 0 where there is none, or where the number does not fit into 63 bits. -/
def readN (acc : Nat) : Bytes → Nat
  | [] => acc
  | c :: r => if 48 ≤ c.toNat ∧ c.toNat ≤ 57 ∧ 10 * acc + (c.toNat - 48) ≤ 9223372036854775807 then readN (10 * acc + (c.toNat - 48)) r else 0

theorem readN_ok (l : Bytes) : ∀ acc, (∀ c ∈ l, isDig c) → numAt acc l ≤ 9223372036854775807 → readN acc l = numAt acc l := by
  induction l with
  | nil => intro acc _ _; rfl
  | cons c l ih =>
    intro acc hd hn
    have hc : isDig c := hd c (by simp)
    unfold isDig at hc
    rw [numAt_cons] at hn ⊢
    have hge := numAt_ge l (10 * acc + (c.toNat - 48))
    unfold readN
    rw [if_pos ⟨hc.1, hc.2, by omega⟩]
    exact ih _ (fun x hx => hd x (by simp [hx])) hn
theorem readN_itoa (n : Nat) (h : n ≤ 9223372036854775807) : readN 0 (Lib.itoa (n : Int)) = n := by
  rw [itoa_nn, readN_ok _ 0 (decDigits_dig n) (by rw [numAt_dec]; omega), numAt_dec]
theorem readN_le (l : Bytes) : ∀ acc, acc ≤ 9223372036854775807 → readN acc l ≤ 9223372036854775807 := by
  induction l with
  | nil => intro acc h; exact h
  | cons c l ih =>
    intro acc h
    unfold readN
    split
    · rename_i hc; exact ih _ hc.2.2
    · omega
end Go.Proofs.YtoldhocdfkndbaaGreatDoor
