/-
  NUMBERS AND THEIR STRINGS, LISTS OF THEM. No program is named here.
  What the texts of this seat share: texts as values, errors beside results, worlds one after the other.
  number.divide, Do, Negate, and the reference's: contracts.
-/
import Derived.Test.YtoldhocdfkndbaaGreatDoorTxt
import Derived.Test.YtoldhocdfkndbaaGreatDoorProg
import Derived.WalkKit
import Derived.WalkSpells
import Derived.IntWalk
import Derived.Below
import Derived.LoopTactic
import Derived.Lib.QuietBelow
import Derived.Maps.AppendAt
namespace Go.Proofs.YtoldhocdfkndbaaGreatDoor.N2
open Go

def okI (n : Int) : Prop := -9223372036854775808 ≤ n ∧ n ≤ 9223372036854775807

theorem itoa_neg (u : Nat) (h : 0 < u) : Lib.itoa (-(u : Int)) = 45 :: Lib.decDigits u := by
  unfold Lib.itoa
  rw [if_pos (by omega), Int.natAbs_neg, Int.natAbs_natCast]

theorem itoa_cases (n : Int) : (∃ u : Nat, n = u ∧ Lib.itoa n = Lib.decDigits u) ∨ (∃ u : Nat, 0 < u ∧ n = -(u : Int) ∧ Lib.itoa n = 45 :: Lib.decDigits u) := by
  by_cases h : n < 0
  · right
    obtain ⟨u, hu⟩ := Int.eq_ofNat_of_zero_le (show 0 ≤ -n by omega)
    obtain rfl : n = -(u : Int) := by omega
    exact ⟨u, by omega, rfl, itoa_neg u (by omega)⟩
  · left
    obtain ⟨u, rfl⟩ := Int.eq_ofNat_of_zero_le (show 0 ≤ n by omega)
    exact ⟨u, rfl, itoa_nn u⟩

theorem dec_ne_dash (u : Nat) (t : Bytes) : Lib.decDigits u ≠ 45 :: t := by
  intro h
  have := decDigits_dig u 45 (by rw [h]; simp)
  unfold isDig at this
  simp at this

/-- The number that a string's digits stand for, with its sign. -/
def readS : Bytes → Int
  | 45 :: r => -(numAt 0 r : Int)
  | s => (numAt 0 s : Int)
theorem readS_dash (r : Bytes) : readS (45 :: r) = -(numAt 0 r : Int) := rfl
theorem readS_other (s : Bytes) (h : ∀ r, s ≠ 45 :: r) : readS s = (numAt 0 s : Int) := by
  unfold readS
  split
  · rename_i r; exact absurd rfl (h r)
  · rfl
theorem readS_itoa (n : Int) : readS (Lib.itoa n) = n := by
  rcases itoa_cases n with ⟨u, rfl, h⟩ | ⟨u, h0, rfl, h⟩
  · rw [h, readS_other _ (dec_ne_dash u), numAt_dec]
  · rw [h, readS_dash, numAt_dec]
theorem itoa_inj {m n : Int} (h : Lib.itoa m = Lib.itoa n) : m = n := by rw [← readS_itoa m, h, readS_itoa]

/-- The number whose string it is, if there is one. -/
def numParse (s : Bytes) : Option Int := if s = Lib.itoa (readS s) ∧ (-9223372036854775808 ≤ readS s ∧ readS s ≤ 9223372036854775807) then some (readS s) else none
theorem numParse_itoa {n : Int} (h : okI n) : numParse (Lib.itoa n) = some n := by
  unfold numParse
  rw [readS_itoa, if_pos ⟨rfl, h⟩]
theorem numParse_none {s : Bytes} (h : ∀ n, okI n → s ≠ Lib.itoa n) : numParse s = none := by
  unfold numParse
  rw [if_neg]
  rintro ⟨h1, h2⟩
  exact h _ h2 h1
theorem numParse_some {s : Bytes} {n : Int} (h : numParse s = some n) : okI n ∧ s = Lib.itoa n := by
  unfold numParse at h
  split at h
  · rename_i hc
    cases h
    exact ⟨hc.2, hc.1⟩
  · cases h

/-- Each byte of a number's string is a digit, or the dash at its head. -/
theorem itoa_bytes (n : Int) (k : Nat) (c : UInt8) (h : (Lib.itoa n)[k]? = some c) : isDig c ∨ (k = 0 ∧ c = 45) := by
  rcases itoa_cases n with ⟨u, rfl, e⟩ | ⟨u, h0, rfl, e⟩
  · rw [e] at h
    exact .inl (decDigits_dig u c (List.mem_of_getElem? h))
  · rw [e] at h
    cases k with
    | zero => right; exact ⟨rfl, by simpa using h.symm⟩
    | succ k => left; rw [List.getElem?_cons_succ] at h; exact decDigits_dig u c (List.mem_of_getElem? h)
theorem itoa_avoids (n : Int) (c : UInt8) (h : ¬ isDig c) (h2 : c ≠ 45) : c ∉ Lib.itoa n := by
  intro hc
  obtain ⟨k, hk⟩ := List.getElem?_of_mem hc
  rcases itoa_bytes n k c hk with h3 | ⟨_, h3⟩
  · exact h h3
  · exact h2 h3
theorem nDigits_at (k : Nat) : ∀ u : Nat, u < 10 ^ (k + 1) → Lib.nDigits u ≤ k + 1 := by
  induction k with
  | zero => intro u h; rw [Lib.nDigits, dif_pos (by simpa using h)]; exact Nat.le_refl _
  | succ k ih =>
    intro u h
    rw [Lib.nDigits]
    split
    · omega
    · have := ih (u / 10) (by rw [Nat.pow_succ] at h; omega)
      omega
theorem dec_length (u : Nat) (h : u ≤ 9223372036854775808) : (Lib.decDigits u).length ≤ 19 := by
  rw [Lib.decDigits_length]
  exact nDigits_at 18 u (by simp only [Nat.reduceAdd, Nat.reducePow]; omega)
theorem itoa_len (n : Int) (h : okI n) : (Lib.itoa n).length ≤ 20 := by
  unfold okI at h
  rcases itoa_cases n with ⟨u, rfl, e⟩ | ⟨u, h0, rfl, e⟩
  · rw [e]; have := dec_length u (by omega); omega
  · rw [e]; have := dec_length u (by omega); simp; omega
theorem itoa_ne (n : Int) : Lib.itoa n ≠ [] := by
  rcases itoa_cases n with ⟨u, rfl, e⟩ | ⟨u, h0, rfl, e⟩
  · rw [e]; exact decDigits_ne u
  · rw [e]; simp

/-! ### lists -/
def parts (c : UInt8) : Bytes → List Bytes
  | [] => [[]]
  | b :: r => if b = c then [] :: parts c r else match parts c r with | [] => [[b]] | h :: t => (b :: h) :: t
theorem parts_ne (c : UInt8) (l : Bytes) : parts c l ≠ [] := by
  cases l with
  | nil => simp [parts]
  | cons b r => unfold parts; split; simp; split <;> simp
theorem parts_self {c : UInt8} {p : Bytes} (h : c ∉ p) : parts c p = [p] := by
  induction p with
  | nil => rfl
  | cons b p ih =>
    simp only [List.mem_cons, not_or] at h
    rw [parts, if_neg (fun e => h.1 e.symm), ih h.2]
theorem parts_of {c : UInt8} {p r : Bytes} (h : c ∉ p) : parts c (p ++ c :: r) = p :: parts c r := by
  induction p with
  | nil => rw [List.nil_append, parts, if_pos rfl]
  | cons b p ih =>
    simp only [List.mem_cons, not_or] at h
    rw [List.cons_append, parts, if_neg (fun e => h.1 e.symm), ih h.2]
def allNums : List Bytes → Option (List Int)
  | [] => some []
  | p :: ps => match numParse p with
    | none => none
    | some n => match allNums ps with
      | none => none
      | some l => some (n :: l)
/-- The numbers of a list's string. -/
def numList (s : Bytes) : Option (List Int) := if s = [] then some [] else allNums (parts 44 s)
def joinN : List Int → Bytes
  | [] => []
  | [n] => Lib.itoa n
  | n :: m :: ms => Lib.itoa n ++ 44 :: joinN (m :: ms)
theorem comma_free (n : Int) : (44 : UInt8) ∉ Lib.itoa n := itoa_avoids n 44 (by unfold isDig; decide) (by decide)
theorem joinN_ne {l : List Int} (h : l ≠ []) : joinN l ≠ [] := by
  cases l with
  | nil => exact absurd rfl h
  | cons n ns =>
    cases ns with
    | nil => exact itoa_ne n
    | cons m ms =>
      rw [joinN]
      intro e
      exact itoa_ne n (List.append_eq_nil_iff.1 e).1
theorem allNums_join (l : List Int) (h : ∀ n ∈ l, okI n) (hne : l ≠ []) : allNums (parts 44 (joinN l)) = some l := by
  induction l with
  | nil => exact absurd rfl hne
  | cons n ns ih =>
    cases ns with
    | nil =>
      rw [joinN, parts_self (comma_free n), allNums, numParse_itoa (h n (by simp)), allNums]
    | cons m ms =>
      rw [joinN, parts_of (comma_free n), allNums, numParse_itoa (h n (by simp)), ih (fun x hx => h x (List.mem_cons_of_mem _ hx)) (by simp)]
theorem numList_join (l : List Int) (h : ∀ n ∈ l, okI n) : numList (joinN l) = some l := by
  cases l with
  | nil => rfl
  | cons n ns =>
    unfold numList
    rw [if_neg (joinN_ne (by simp)), allNums_join _ h (by simp)]
theorem parts_back (c : UInt8) (s : Bytes) : ∃ p ps, parts c s = p :: ps ∧ c ∉ p ∧ ((ps = [] ∧ s = p) ∨ ∃ r, s = p ++ c :: r ∧ parts c r = ps) := by
  induction s with
  | nil => exact ⟨[], [], rfl, by simp, .inl ⟨rfl, rfl⟩⟩
  | cons b r ih =>
    rw [parts]
    by_cases h : b = c
    · subst h
      rw [if_pos rfl]
      exact ⟨[], parts b r, rfl, by simp, .inr ⟨r, rfl, rfl⟩⟩
    · rw [if_neg h]
      obtain ⟨p, ps, h1, h2, h3⟩ := ih
      rw [h1]
      refine ⟨b :: p, ps, rfl, by simp only [List.mem_cons, not_or]; exact ⟨fun e => h e.symm, h2⟩, ?_⟩
      rcases h3 with ⟨rfl, rfl⟩ | ⟨t, rfl, h4⟩
      · exact .inl ⟨rfl, rfl⟩
      · exact .inr ⟨t, rfl, h4⟩
theorem allNums_back (k : Nat) : ∀ (s : Bytes) (l : List Int), s.length ≤ k → allNums (parts 44 s) = some l → l ≠ [] ∧ joinN l = s ∧ ∀ n ∈ l, okI n := by
  induction k with
  | zero =>
    intro s l hk h
    obtain rfl : s = [] := List.length_eq_zero_iff.1 (by omega)
    have : numParse [] = none := numParse_none (fun n _ e => itoa_ne n e.symm)
    simp [parts, allNums, this] at h
  | succ k ih =>
    intro s l hk h
    obtain ⟨p, ps, h1, _, h3⟩ := parts_back 44 s
    rw [h1, allNums] at h
    cases hp : numParse p with
    | none => rw [hp] at h; cases h
    | some n =>
      rw [hp] at h
      obtain ⟨hn, rfl⟩ := numParse_some hp
      rcases h3 with ⟨rfl, rfl⟩ | ⟨r, rfl, h4⟩
      · simp only [allNums] at h
        cases h
        exact ⟨by simp, by simp [joinN], by simpa using hn⟩
      · cases ha : allNums ps with
        | none => rw [ha] at h; cases h
        | some l' =>
          rw [ha] at h
          cases h
          rw [← h4] at ha
          obtain ⟨g1, g2, g3⟩ := ih r l' (by simp at hk; omega) ha
          refine ⟨by simp, ?_, ?_⟩
          · cases l' with
            | nil => exact absurd rfl g1
            | cons m ms => rw [joinN, g2]
          · intro x hx
            rcases List.mem_cons.1 hx with rfl | hx
            · exact hn
            · exact g3 x hx
theorem numList_back {s : Bytes} {l : List Int} (h : numList s = some l) : joinN l = s ∧ ∀ n ∈ l, okI n := by
  unfold numList at h
  split at h
  · rename_i e; cases h; exact ⟨e.symm, by simp⟩
  · exact (allNums_back s.length s l (Nat.le_refl _) h).2
/-- One number alone is a list of one. -/
theorem numList_one (s : Bytes) (n : Int) : numParse s = some n ↔ numList s = some [n] := by
  constructor
  · intro h
    obtain ⟨_, rfl⟩ := numParse_some h
    unfold numList
    rw [if_neg (itoa_ne n), parts_self (comma_free n), allNums, h, allNums]
  · intro h
    obtain ⟨h1, h2⟩ := numList_back h
    rw [← h1]
    simp only [joinN]
    exact numParse_itoa (h2 n (by simp))
end Go.Proofs.YtoldhocdfkndbaaGreatDoor.N2

namespace Go.Proofs.YtoldhocdfkndbaaGreatDoor.N2
open Go Go.RowKit Go.Sort

/-- A text of bytes as a string's value. -/
abbrev B (l : Bytes) : ByteArray := ⟨l.toArray⟩
theorem B_append (a b : Bytes) : B a ++ B b = B (a ++ b) := by
  apply ByteArray.ext
  rw [ByteArray.data_append]
  simp
theorem B_list (s : ByteArray) : B s.data.toList = s := rfl
/-- The code of an error that stands beside a missing result. -/
def encE (code : Int) {α : Type} : Option α → Value
  | some _ => .int .i64 0
  | none => .int .i64 code
/-- A number, or 0. -/
def encN : Option Int → Value
  | some v => .int .i64 v
  | none => .int .i64 0
theorem after {w W W' : World} (h : Below w.heap.size w W) (hb : Below W.heap.size W W') : Below w.heap.size w W' := h.trans (hb.mono h.size)

/-- A slice value that reads as these numbers. -/
structure Ints (W : World) (v : Value) (l : List Int) : Prop where
  is : (v = .slice none 0 0 ∧ l = []) ∨ ∃ b o c, v = .slice (some ⟨b, o, none⟩) l.length c ∧ b < W.heap.size ∧ ∀ (k : Nat) (n : Int), l[k]? = some n → W.cell? ⟨b, o + k, none⟩ = some (.int .i64 n)
theorem Ints.below {W W' : World} {v : Value} {l : List Int} (h : Ints W v l) (hb : Below W.heap.size W W') : Ints W' v l := by
  rcases h.is with h1 | ⟨b, o, c, h1, h2, h3⟩
  · exact ⟨.inl h1⟩
  · exact ⟨.inr ⟨b, o, c, h1, Nat.lt_of_lt_of_le h2 hb.size, fun k n hk => (hb.cell h2).trans (h3 k n hk)⟩⟩
theorem Ints.nil {W : World} {v : Value} (h : Ints W v []) : ∃ a c, v = .slice a 0 c := by
  rcases h.is with ⟨rfl, _⟩ | ⟨b, o, c, rfl, _⟩
  · exact ⟨_, _, rfl⟩
  · exact ⟨_, _, rfl⟩
/-- The numbers, or none. -/
def listOr : Option (List Int) → List Int
  | some l => l
  | none => []
end Go.Proofs.YtoldhocdfkndbaaGreatDoor.N2

namespace Go.Proofs.YtoldhocdfkndbaaGreatDoor.N2
open Go Go.RowKit Go.Sort

/-- The result of an operator, and its trap, if the operator is there. -/
def doN (op a b : Int) : Option (Int × Int) :=
  if op = 1 then some (wrap64 (a + b), 0) else if op = 2 then some (wrap64 (a - b), 0) else if op = 3 then some (wrap64 (a * b), 0)
  else if op = 4 then (if b = 0 then some (0, 1) else some (wrap64 (a.tdiv b), 0))
  else if op = 5 then (if b = 0 then some (0, 1) else some (a.tmod b, 0)) else none
def encD : Option (Int × Int) → Value
  | some (v, t) => .tuple #[.int .i64 v, .int .i64 t, .int .i64 0]
  | none => .tuple #[.int .i64 0, .int .i64 0, .int .i64 2]

theorem negate_calls (a : Int) (w : World) :
    Calls Tryz.prog 221 #[.int .i64 a] w fun e w' => e = .returned (.int .i64 (wrap64 (-a))) ∧ w = w' := by
  go_enter Tryz.func221, Tryz.ntmps221
  go_wp2
  go_ret
  exact ⟨rfl, rfl⟩
end Go.Proofs.YtoldhocdfkndbaaGreatDoor.N2
