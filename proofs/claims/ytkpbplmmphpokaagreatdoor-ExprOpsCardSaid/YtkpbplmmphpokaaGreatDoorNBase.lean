/-
  What the texts of this seat share: texts as values, errors beside results, worlds one after the other.
-/
import Derived.Test.YtkpbplmmphpokaaGreatDoorProg
import Derived.Test.YtkpbplmmphpokaaGreatDoorNMath
import Derived.WalkKit
import Derived.WalkSpells
import Derived.IntWalk
import Derived.Below
import Derived.LoopTactic
import Derived.Lib.QuietBelow
import Derived.Maps.AppendAt
namespace Go.Proofs.YtkpbplmmphpokaaGreatDoor.N2
open Go Go.RowKit Go.Sort

/-- A text of bytes as a string's value. -/
abbrev B (l : Bytes) : ByteArray := ⟨l.toArray⟩
theorem B_append (a b : Bytes) : B a ++ B b = B (a ++ b) := by
  apply ByteArray.ext
  rw [ByteArray.data_append]
  simp
theorem B_list (s : ByteArray) : B s.data.toList = s := rfl
/-- The code of an error that stands beside a missing result. -/
def encE (code : Int) {α : Type} : Option α → Value
  | some _ => .int .i64 0
  | none => .int .i64 code
/-- A number, or 0. -/
def encN : Option Int → Value
  | some v => .int .i64 v
  | none => .int .i64 0
theorem after {w W W' : World} (h : Below w.heap.size w W) (hb : Below W.heap.size W W') : Below w.heap.size w W' := h.trans (hb.mono h.size)

/-- A slice value that reads as these numbers. -/
structure Ints (W : World) (v : Value) (l : List Int) : Prop where
  is : (v = .slice none 0 0 ∧ l = []) ∨ ∃ b o c, v = .slice (some ⟨b, o, none⟩) l.length c ∧ b < W.heap.size ∧ ∀ (k : Nat) (n : Int), l[k]? = some n → W.cell? ⟨b, o + k, none⟩ = some (.int .i64 n)
theorem Ints.below {W W' : World} {v : Value} {l : List Int} (h : Ints W v l) (hb : Below W.heap.size W W') : Ints W' v l := by
  rcases h.is with h1 | ⟨b, o, c, h1, h2, h3⟩
  · exact ⟨.inl h1⟩
  · exact ⟨.inr ⟨b, o, c, h1, Nat.lt_of_lt_of_le h2 hb.size, fun k n hk => (hb.cell h2).trans (h3 k n hk)⟩⟩
theorem Ints.nil {W : World} {v : Value} (h : Ints W v []) : ∃ a c, v = .slice a 0 c := by
  rcases h.is with ⟨rfl, _⟩ | ⟨b, o, c, rfl, _⟩
  · exact ⟨_, _, rfl⟩
  · exact ⟨_, _, rfl⟩
/-- The numbers, or none. -/
def listOr : Option (List Int) → List Int
  | some l => l
  | none => []
end Go.Proofs.YtkpbplmmphpokaaGreatDoor.N2
