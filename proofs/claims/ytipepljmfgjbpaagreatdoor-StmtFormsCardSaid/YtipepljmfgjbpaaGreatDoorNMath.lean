/-
  NUMBERS AND THEIR STRINGS, LISTS OF THEM. No program is named here.
  What the texts of this seat share: texts as values, errors beside results, worlds one after the other.
  number.divide, Do, Negate, and the reference's: contracts.
-/
import Derived.Test.YtipepljmfgjbpaaGreatDoorTxt
import Derived.Test.YtipepljmfgjbpaaGreatDoorProg
import Derived.WalkKit
import Derived.WalkSpells
import Derived.IntWalk
import Derived.Below
import Derived.LoopTactic
import Derived.Lib.QuietBelow
import Derived.Maps.AppendAt
namespace Go.Proofs.YtipepljmfgjbpaaGreatDoor.N2
open Go

def okI (n : Int) : Prop := -9223372036854775808 ≤ n ∧ n ≤ 9223372036854775807

theorem itoa_neg (u : Nat) (h : 0 < u) : Lib.itoa (-(u : Int)) = 45 :: Lib.decDigits u := by
  unfold Lib.itoa
  rw [if_pos (by omega), Int.natAbs_neg, Int.natAbs_natCast]

theorem itoa_cases (n : Int) : (∃ u : Nat, n = u ∧ Lib.itoa n = Lib.decDigits u) ∨ (∃ u : Nat, 0 < u ∧ n = -(u : Int) ∧ Lib.itoa n = 45 :: Lib.decDigits u) := by
  by_cases h : n < 0
  · right
    obtain ⟨u, hu⟩ := Int.eq_ofNat_of_zero_le (show 0 ≤ -n by omega)
    obtain rfl : n = -(u : Int) := by omega
    exact ⟨u, by omega, rfl, itoa_neg u (by omega)⟩
  · left
    obtain ⟨u, rfl⟩ := Int.eq_ofNat_of_zero_le (show 0 ≤ n by omega)
    exact ⟨u, rfl, itoa_nn u⟩

theorem dec_ne_dash (u : Nat) (t : Bytes) : Lib.decDigits u ≠ 45 :: t := by
  intro h
  have := decDigits_dig u 45 (by rw [h]; simp)
  unfold isDig at this
  simp at this

/-- The number that a string's digits stand for, with its sign. -/
def readS : Bytes → Int
  | 45 :: r => -(numAt 0 r : Int)
  | s => (numAt 0 s : Int)
theorem readS_dash (r : Bytes) : readS (45 :: r) = -(numAt 0 r : Int) := rfl
theorem readS_other (s : Bytes) (h : ∀ r, s ≠ 45 :: r) : readS s = (numAt 0 s : Int) := by
  unfold readS
  split
  · rename_i r; exact absurd rfl (h r)
  · rfl
theorem readS_itoa (n : Int) : readS (Lib.itoa n) = n := by
  rcases itoa_cases n with ⟨u, rfl, h⟩ | ⟨u, h0, rfl, h⟩
  · rw [h, readS_other _ (dec_ne_dash u), numAt_dec]
  · rw [h, readS_dash, numAt_dec]
/-- The number whose string it is, if there is one. -/
def numParse (s : Bytes) : Option Int := if s = Lib.itoa (readS s) ∧ (-9223372036854775808 ≤ readS s ∧ readS s ≤ 9223372036854775807) then some (readS s) else none
theorem numParse_itoa {n : Int} (h : okI n) : numParse (Lib.itoa n) = some n := by
  unfold numParse
  rw [readS_itoa, if_pos ⟨rfl, h⟩]
theorem numParse_none {s : Bytes} (h : ∀ n, okI n → s ≠ Lib.itoa n) : numParse s = none := by
  unfold numParse
  rw [if_neg]
  rintro ⟨h1, h2⟩
  exact h _ h2 h1
theorem numParse_some {s : Bytes} {n : Int} (h : numParse s = some n) : okI n ∧ s = Lib.itoa n := by
  unfold numParse at h
  split at h
  · rename_i hc
    cases h
    exact ⟨hc.2, hc.1⟩
  · cases h

/-! ### lists -/
def parts (c : UInt8) : Bytes → List Bytes
  | [] => [[]]
  | b :: r => if b = c then [] :: parts c r else match parts c r with | [] => [[b]] | h :: t => (b :: h) :: t
end Go.Proofs.YtipepljmfgjbpaaGreatDoor.N2

namespace Go.Proofs.YtipepljmfgjbpaaGreatDoor.N2
open Go Go.RowKit Go.Sort

/-- A text of bytes as a string's value. -/
abbrev B (l : Bytes) : ByteArray := ⟨l.toArray⟩
/-- The code of an error that stands beside a missing result. -/
def encE (code : Int) {α : Type} : Option α → Value
  | some _ => .int .i64 0
  | none => .int .i64 code
/-- A number, or 0. -/
def encN : Option Int → Value
  | some v => .int .i64 v
  | none => .int .i64 0
theorem after {w W W' : World} (h : Below w.heap.size w W) (hb : Below W.heap.size W W') : Below w.heap.size w W' := h.trans (hb.mono h.size)

/-- A slice value that reads as these numbers. -/
structure Ints (W : World) (v : Value) (l : List Int) : Prop where
  is : (v = .slice none 0 0 ∧ l = []) ∨ ∃ b o c, v = .slice (some ⟨b, o, none⟩) l.length c ∧ b < W.heap.size ∧ ∀ (k : Nat) (n : Int), l[k]? = some n → W.cell? ⟨b, o + k, none⟩ = some (.int .i64 n)
theorem Ints.below {W W' : World} {v : Value} {l : List Int} (h : Ints W v l) (hb : Below W.heap.size W W') : Ints W' v l := by
  rcases h.is with h1 | ⟨b, o, c, h1, h2, h3⟩
  · exact ⟨.inl h1⟩
  · exact ⟨.inr ⟨b, o, c, h1, Nat.lt_of_lt_of_le h2 hb.size, fun k n hk => (hb.cell h2).trans (h3 k n hk)⟩⟩
theorem Ints.nil {W : World} {v : Value} (h : Ints W v []) : ∃ a c, v = .slice a 0 c := by
  rcases h.is with ⟨rfl, _⟩ | ⟨b, o, c, rfl, _⟩
  · exact ⟨_, _, rfl⟩
  · exact ⟨_, _, rfl⟩
end Go.Proofs.YtipepljmfgjbpaaGreatDoor.N2

namespace Go.Proofs.YtipepljmfgjbpaaGreatDoor.N2
open Go Go.RowKit Go.Sort

theorem negate_calls (a : Int) (w : World) :
    Calls Tryz.prog 99 #[.int .i64 a] w fun e w' => e = .returned (.int .i64 (wrap64 (-a))) ∧ w = w' := by
  go_enter Tryz.func99, Tryz.ntmps99
  go_wp2
  go_ret
  exact ⟨rfl, rfl⟩
end Go.Proofs.YtipepljmfgjbpaaGreatDoor.N2
