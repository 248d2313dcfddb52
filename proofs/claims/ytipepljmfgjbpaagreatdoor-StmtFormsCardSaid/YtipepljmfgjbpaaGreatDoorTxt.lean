/-
  PLAIN LAWS ON TEXTS: the lines of a text, the rows of a text (a line with its number and its offset), and what a cut at one byte gives. No program is named here.
  PLAIN LAWS ON DECIMAL NUMERALS. No program is named here.
-/
import Derived.Lib.IndexBytes
import Derived.Lib.IndexMore
import Derived.Lib.ItoaMem
import Derived.Lib.AtoiAllCases
namespace Go.Proofs.YtipepljmfgjbpaaGreatDoor
open Go

abbrev Bytes := List UInt8

def upTo (c : UInt8) : Bytes → Bytes
  | [] => []
  | b :: r => if b = c then [] else b :: upTo c r
def behind (c : UInt8) : Bytes → Option Bytes
  | [] => none
  | b :: r => if b = c then some r else behind c r

theorem upTo_behind (c : UInt8) (l : Bytes) : l = upTo c l ++ (match behind c l with | none => [] | some r => c :: r) := by
  induction l with
  | nil => rfl
  | cons b r ih =>
    unfold upTo behind
    by_cases h : b = c
    · simp [h]
    · simp only [h, if_false, List.cons_append]
      rw [← ih]
theorem behind_length {c : UInt8} {l r : Bytes} (h : behind c l = some r) : l.length = (upTo c l).length + 1 + r.length := by
  have e := congrArg List.length (upTo_behind c l)
  rw [h] at e; simp at e; omega
theorem behind_drop {c : UInt8} {l r : Bytes} (h : behind c l = some r) : r = l.drop ((upTo c l).length + 1) := by
  have e := upTo_behind c l
  rw [h] at e
  have : l.drop ((upTo c l).length + 1) = (upTo c l ++ c :: r).drop ((upTo c l).length + 1) := congrArg _ e
  rw [this, List.drop_append]; simp
/-! ### lines and rows -/
def lines : Bytes → List Bytes
  | [] => [[]]
  | b :: r => if b = 10 then [] :: lines r else match lines r with | [] => [[b]] | h :: t => (b :: h) :: t

theorem lines_eq (l : Bytes) : lines l = upTo 10 l :: (match behind 10 l with | none => [] | some r => lines r) := by
  induction l with
  | nil => rfl
  | cons b r ih =>
    by_cases h : b = 10
    · rw [lines, upTo, behind, if_pos h, if_pos h, if_pos h]
    · rw [lines, upTo, behind, if_neg h, if_neg h, if_neg h, ih]

structure Row where
  num : Nat
  start : Nat
  text : Bytes

def rowsFrom (num start : Nat) : List Bytes → List Row
  | [] => []
  | l :: ls => ⟨num, start, l⟩ :: rowsFrom (num + 1) (start + l.length + 1) ls

def rowsOf (s : Bytes) : List Row := rowsFrom 1 0 (lines s)

/-- WHERE THE ITERATOR STANDS: 'pre' has come; the next row has the number num and begins at st. -/
structure AtRow (s : Bytes) (pre : List Row) (num st : Nat) : Prop where
  all : rowsOf s = pre ++ rowsFrom num st (lines (s.drop st))
  numIs : num = pre.length + 1
  le : st ≤ s.length

theorem AtRow.start (s : Bytes) : AtRow s [] 1 0 := ⟨by simp [rowsOf], rfl, Nat.zero_le _⟩

theorem AtRow.row {s : Bytes} {pre : List Row} {num st : Nat} (h : AtRow s pre num st) :
    ∃ rest, rowsOf s = pre ++ ⟨num, st, upTo 10 (s.drop st)⟩ :: rest ∧ pre.length < (rowsOf s).length := by
  have h1 := h.all
  rw [lines_eq, rowsFrom] at h1
  exact ⟨_, h1, by rw [h1]; simp⟩
theorem AtRow.next {s : Bytes} {pre : List Row} {num st : Nat} {r : Bytes} (h : AtRow s pre num st) (hr : behind 10 (s.drop st) = some r) :
    AtRow s (pre ++ [⟨num, st, upTo 10 (s.drop st)⟩]) (num + 1) (st + (upTo 10 (s.drop st)).length + 1) := by
  have h1 := h.all
  have hl := behind_length hr
  have hd := behind_drop hr
  rw [List.drop_drop] at hd
  rw [lines_eq, rowsFrom, hr] at h1
  simp only [List.length_drop] at hl
  have e : s.drop (st + (upTo 10 (s.drop st)).length + 1) = r := by rw [hd]; congr 1
  refine ⟨?_, by have := h.numIs; simp; omega, by omega⟩
  rw [e, h1]; simp
theorem AtRow.last {s : Bytes} {pre : List Row} {num st : Nat} (h : AtRow s pre num st) (hr : behind 10 (s.drop st) = none) :
    rowsOf s = pre ++ [⟨num, st, upTo 10 (s.drop st)⟩] := by
  have h1 := h.all
  rw [lines_eq, rowsFrom, hr] at h1
  simpa [rowsFrom] using h1

end Go.Proofs.YtipepljmfgjbpaaGreatDoor

namespace Go.Proofs.YtipepljmfgjbpaaGreatDoor
open Go

def isDig (c : UInt8) : Prop := 48 ≤ c.toNat ∧ c.toNat ≤ 57

theorem digOf (k : Nat) (h : k < 10) : (UInt8.ofNat (48 + k)).toNat = 48 + k := by
  rw [UInt8.toNat_ofNat']; omega

theorem decDigits_dig (u : Nat) : ∀ c ∈ Lib.decDigits u, isDig c := by
  induction u using Nat.strongRecOn with
  | _ u ih =>
    intro c hc
    rw [Lib.decDigits] at hc
    by_cases h : u < 10
    · rw [dif_pos h, List.mem_singleton] at hc
      subst hc
      unfold isDig
      rw [digOf u h]; omega
    · rw [dif_neg h, List.mem_append, List.mem_singleton] at hc
      rcases hc with hc | hc
      · exact ih _ (by omega) c hc
      · subst hc
        unfold isDig
        rw [digOf _ (by omega)]; omega

/-- What a row of digits adds to what stands ahead of it. -/
def numAt (acc : Nat) (l : Bytes) : Nat := l.foldl (fun a c => 10 * a + (c.toNat - 48)) acc

theorem numAt_cons (acc : Nat) (c : UInt8) (l : Bytes) : numAt acc (c :: l) = numAt (10 * acc + (c.toNat - 48)) l := by unfold numAt; rw [List.foldl_cons]
theorem numAt_one (acc : Nat) (c : UInt8) : numAt acc [c] = 10 * acc + (c.toNat - 48) := by rw [numAt_cons]; unfold numAt; rw [List.foldl_nil]
theorem numAt_append (acc : Nat) (a b : Bytes) : numAt acc (a ++ b) = numAt (numAt acc a) b := by simp [numAt]
theorem numAt_ge (l : Bytes) : ∀ acc, acc ≤ numAt acc l := by
  induction l with
  | nil => intro acc; exact Nat.le_refl _
  | cons c l ih => intro acc; rw [numAt_cons]; have := ih (10 * acc + (c.toNat - 48)); omega
theorem numAt_dec (u : Nat) : numAt 0 (Lib.decDigits u) = u := by
  induction u using Nat.strongRecOn with
  | _ u ih =>
    rw [Lib.decDigits]
    by_cases h : u < 10
    · rw [dif_pos h, numAt_one, digOf u h]
      omega
    · rw [dif_neg h, numAt_append, ih (u / 10) (by omega), numAt_one, digOf (u % 10) (by omega)]
      omega

theorem parse_ok (l : Bytes) : ∀ acc, (∀ c ∈ l, isDig c) → numAt acc l < 18446744073709551616 → Lib.parseUint10 acc l = .ok (numAt acc l) := by
  induction l with
  | nil => intro acc _ _; rfl
  | cons c l ih =>
    intro acc hd hn
    have hc : isDig c := hd c (by simp)
    unfold isDig at hc
    rw [numAt_cons] at hn ⊢
    have hge := numAt_ge l (10 * acc + (c.toNat - 48))
    have he : acc * 10 + (c.toNat - 48) = 10 * acc + (c.toNat - 48) := by omega
    unfold Lib.parseUint10
    rw [if_pos hc, if_neg (by omega), if_neg (by omega), he]
    exact ih _ (fun x hx => hd x (by simp [hx])) hn

theorem itoa_nn (n : Nat) : Lib.itoa (n : Int) = Lib.decDigits n := by
  unfold Lib.itoa
  rw [if_neg (by omega), Int.toNat_natCast]

end Go.Proofs.YtipepljmfgjbpaaGreatDoor
