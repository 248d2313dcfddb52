/-
  BYTES, ROWS, NUMBERS, SIGNS, AND THE TOKENS OF A TEXT, as plain functions. No program is named here.
  WHICH TOKEN A TEXT BEGINS WITH, by its first byte; tokens with something behind them. No program is named here.
  Texts of tokens with gaps between them, and what a scan of them gives; what a scan's tokens are. No program is named here.
-/
import Derived.Test.YtipepljmfgjbpaaGreatDoorTxt
import Derived.Lib.ParseIntBTie
namespace Go.Proofs.YtipepljmfgjbpaaGreatDoor.L4
open Go

def lettI (c : Int) : Bool := decide (65 ≤ c) && decide (c ≤ 90) || decide (97 ≤ c) && decide (c ≤ 122)
def digI (c : Int) : Bool := decide (48 ≤ c) && decide (c ≤ 57)
def whiI (c : Int) : Bool := c == 32 || c == 9 || c == 13 || c == 10
def lett (c : UInt8) : Bool := lettI (c.toNat : Int)
def dig (c : UInt8) : Bool := digI (c.toNat : Int)
def whi (c : UInt8) : Bool := whiI (c.toNat : Int)
def okC (c : UInt8) : Bool := lett c || dig c || c == 95

/-- The letters, digits and _ with which a text begins. -/
def row (s : Bytes) : Bytes := s.takeWhile okC

/-- How many bytes of white space and comments a text begins with; true: within a comment. -/
def skN : Bool → Bytes → Nat
  | _, [] => 0
  | true, c :: r => if c = 10 then 1 + skN false r else 1 + skN true r
  | false, c :: r => if whi c then 1 + skN false r else if c = 47 ∧ r.head? = some 47 then 1 + skN true r else 0
theorem skN_le (b : Bool) (s : Bytes) : skN b s ≤ s.length := by
  induction s generalizing b with
  | nil => cases b <;> simp [skN]
  | cons c r ih =>
    have h1 := ih true
    have h2 := ih false
    cases b <;> simp only [skN, List.length_cons] <;> repeat (first | split | omega)

def kwsL : List Bytes := [[102, 117, 110, 99], [118, 97, 114], [105, 102], [101, 108, 115, 101], [119, 104, 105, 108, 101], [114, 101, 116, 117, 114, 110], [112, 114, 105, 110, 116], [114, 101, 97, 100], [110, 101, 119], [108, 101, 110], [105, 110, 116], [98, 111, 111, 108], [97, 114, 114, 97, 121], [116, 114, 117, 101], [102, 97, 108, 115, 101]]
def kwB (s : Bytes) : Bool := kwsL.contains s
def sgL : List Bytes := [[124, 124], [38, 38], [61, 61], [33, 61], [60, 61], [62, 61], [40], [41], [123], [125], [91], [93], [44], [59], [61], [60], [62], [43], [45], [42], [47], [37], [33]]
def sign (s : Bytes) : Bytes := (sgL.find? (fun x => x.isPrefixOf s)).getD []
def nameB (r : Bytes) : Bool := match r with | [] => false | c :: t => lett c && decide (t.length + 1 ≤ 16)
def numB (r : Bytes) : Bool := match Lib.parseIntB 64 r with | .ok v => Lib.itoa v == r | _ => false
/-- The token with which a text begins: its kind (0: none) and its text. -/
def tok (s : Bytes) : Int × Bytes :=
  if kwB (row s) then (3, row s) else if nameB (row s) then (1, row s) else if numB (row s) then (2, row s) else if sign s ≠ [] then (4, sign s) else (0, [])

structure Tk where
  k : Int
  t : Bytes
  a : Nat
deriving DecidableEq

def skAt (s : Bytes) (a : Nat) : Nat := a + skN false (s.drop a)
theorem skAt_le (s : Bytes) (a : Nat) (h : a ≤ s.length) : a ≤ skAt s a ∧ skAt s a ≤ s.length := by
  have := skN_le false (s.drop a)
  rw [List.length_drop] at this
  unfold skAt
  omega
def scN (s : Bytes) : Nat → Nat → List Tk × Option Nat
  | 0, _ => ([], none)
  | f + 1, a => if a < s.length then
      if (tok (s.drop a)).1 = 0 then ([], some a) else (⟨(tok (s.drop a)).1, (tok (s.drop a)).2, a⟩ :: (scN s f (skAt s (a + (tok (s.drop a)).2.length))).1, (scN s f (skAt s (a + (tok (s.drop a)).2.length))).2)
    else ([], none)
def scan (s : Bytes) : List Tk × Option Nat := scN s (s.length + 1) (skAt s 0)

/-! ### what a row is -/
theorem row_all (s : Bytes) : (row s).all okC = true := by
  unfold row
  induction s with
  | nil => rfl
  | cons c r ih =>
    rw [List.takeWhile_cons]
    split
    · rename_i h; simp only [List.all_cons, h, ih, Bool.true_and]
    · rfl
theorem row_pre (s : Bytes) : row s <+: s := List.takeWhile_prefix _
/-! ### numbers -/
theorem numB_nil : numB [] = false := rfl
/-! ### the order of strings of digits -/
end Go.Proofs.YtipepljmfgjbpaaGreatDoor.L4

namespace Go.Proofs.YtipepljmfgjbpaaGreatDoor.L4
open Go

theorem row_stop {c : UInt8} {r : Bytes} (h : okC c = false) : row (c :: r) = [] := by unfold row; rw [List.takeWhile_cons, if_neg (by simp [h])]
def sgHeads : Bytes := [124, 38, 61, 33, 60, 62, 40, 41, 123, 125, 91, 93, 44, 59, 43, 45, 42, 47, 37]
theorem sign_nil {s : Bytes} (h : ∀ x ∈ sgL, x.isPrefixOf s = false) : sign s = [] := by
  unfold sign
  rw [List.find?_eq_none.2 (fun x hx => by simp [h x hx])]
  rfl
theorem sgL_heads : ∀ x ∈ sgL, ∃ a ∈ sgHeads, x.head? = some a := by decide +kernel
theorem sign_none {c : UInt8} {r : Bytes} (h : c ∉ sgHeads) : sign (c :: r) = [] := by
  refine sign_nil fun x hx => ?_
  obtain ⟨a, ha, hxa⟩ := sgL_heads x hx
  cases x with
  | nil => simp at hxa
  | cons b t =>
    simp only [List.head?_cons, Option.some.injEq] at hxa
    subst hxa
    rw [List.isPrefixOf_cons_cons, Bool.and_eq_false_iff]
    left
    rw [beq_eq_false_iff_ne]
    rintro rfl
    exact h ha
theorem heads_not : ∀ a ∈ sgHeads, okC a = false := by decide +kernel
theorem sign_ok {c : UInt8} {r : Bytes} (h : okC c = true) : sign (c :: r) = [] := sign_none fun hm => by rw [heads_not c hm] at h; cases h
theorem kwB_nil : kwB [] = false := by decide +kernel
/-! ### tokens and what stands behind them -/
theorem row_of_all {t : Bytes} (h : t.all okC = true) (s : Bytes) : row (t ++ s) = t ++ row s := by
  unfold row
  rw [List.takeWhile_append_of_pos]
  intro a ha
  exact List.all_eq_true.1 h a ha
def IsTok (k : Int) (t : Bytes) : Prop := tok t = (k, t) ∧ k ≠ 0
theorem sg_toks : ∀ x ∈ sgL, tok x = (4, x) := by decide +kernel
theorem sign_mem {s : Bytes} (h : sign s ≠ []) : sign s ∈ sgL ∧ (sign s).isPrefixOf s = true := by
  unfold sign at h ⊢
  cases hf : sgL.find? (fun x => x.isPrefixOf s) with
  | none => rw [hf] at h; exact absurd rfl h
  | some x => exact ⟨List.mem_of_find?_eq_some hf, by simpa using List.find?_some hf⟩
theorem tok_ok (t : Bytes) (h : t.all okC = true) (hne : t ≠ []) : tok t = if kwB t then (3, t) else if nameB t then (1, t) else if numB t then (2, t) else (0, []) := by
  have hr : row t = t := by have := row_of_all h []; simp only [List.append_nil] at this; rw [this]; show t ++ [] = t; simp
  have hs : sign t = [] := by
    cases t with
    | nil => exact absurd rfl hne
    | cons c r => exact sign_ok (by simpa using (List.all_eq_true.1 h c (by simp)))
  unfold tok
  rw [hr, hs]
  rfl
/-- The token of a text stands for itself. -/
theorem tok_is {r : Bytes} {k : Int} {t : Bytes} (h : tok r = (k, t)) (hk : k ≠ 0) : IsTok k t ∧ t <+: r ∧ t ≠ [] := by
  by_cases hr : row r = []
  · unfold tok at h
    rw [hr, kwB_nil, numB_nil] at h
    simp only [nameB, Bool.false_eq_true, if_false] at h
    split at h
    · rename_i hs
      cases h
      obtain ⟨h1, h2⟩ := sign_mem hs
      exact ⟨⟨sg_toks _ h1, by decide⟩, List.isPrefixOf_iff_prefix.1 h2, hs⟩
    · cases h; exact absurd rfl hk
  · have hs : sign r = [] := by
      cases r with
      | nil => exact absurd rfl hr
      | cons c r =>
        refine sign_ok ?_
        rw [← Bool.not_eq_false]
        exact fun hc => hr (row_stop hc)
    have h1 := tok_ok (row r) (row_all r) hr
    have h2 : tok r = tok (row r) := by
      rw [h1]
      unfold tok
      rw [hs]
      rfl
    have h3 : t = row r := by
      rw [h2, h1] at h
      split at h
      · cases h; rfl
      · split at h
        · cases h; rfl
        · split at h
          · cases h; rfl
          · cases h; exact absurd rfl hk
    subst h3
    exact ⟨⟨h2 ▸ h, hk⟩, row_pre r, hr⟩
end Go.Proofs.YtipepljmfgjbpaaGreatDoor.L4

namespace Go.Proofs.YtipepljmfgjbpaaGreatDoor.L4
open Go

structure It where
  g : Bytes
  k : Int
  t : Bytes
def tx : List It → Bytes → Bytes
  | [], last => last
  | i :: l, last => i.g ++ (i.t ++ tx l last)
def wt : Nat → List It → List Tk
  | _, [] => []
  | o, i :: l => ⟨i.k, i.t, o + i.g.length⟩ :: wt (o + i.g.length + i.t.length) l
/-! ### what a scan gives -/
end Go.Proofs.YtipepljmfgjbpaaGreatDoor.L4
