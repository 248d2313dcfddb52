/-
  Rows of one's own that grow side by side: tokens, words, numbers.
-/
import Derived.Test.YtoldhocdfkndbaaGreatDoorEWk
import Derived.Test.YtoldhocdfkndbaaGreatDoorSGrow
import Derived.Test.YtoldhocdfkndbaaGreatDoorLScan
import Derived.Maps.AppendAt
namespace Go.Proofs.YtoldhocdfkndbaaGreatDoor.E5
open Go Go.RowKit Go.Proofs.YtoldhocdfkndbaaGreatDoor

/-- Tokens in a row, with the third cell as it may be. -/
def kA : S3.RowKind (Int × List UInt8) Int := ⟨44, 3, fun t a => [.int .i64 t.1, .string (B t.2), .int .i64 a], fun _ _ t _ => t.2.length ≤ 9223372036854775807, fun _ _ => rfl, fun h _ _ => h⟩
theorem kA_one (l : TL) (V : Nat → Int) : ∀ u ∈ (kA.rows l V).flatten, u.oneCell' = true := S3.flat_one fun r hr u hu => by
  obtain ⟨i, hi, rfl⟩ := List.getElem_of_mem hr
  simp [S3.RowKind.rows, kA] at hu
  rcases hu with rfl | rfl | rfl <;> rfl
theorem add_plain (b o j : Nat) : (Addr.add ⟨b, o, none⟩ j) = ⟨b, o + j, none⟩ := by unfold Addr.add; split <;> simp_all
theorem append_empty {P : Program} (W : World) (t ty e : TypeId) (i : TypeInfo) (ht : P.underlying t = some (.slice e)) (hi : P.info? e = some i) (B A : Option Addr) (n cap c : Nat) (h : n ≤ cap) :
    (Builtin.append_ #[t, t] ty #[.slice B n cap, .slice A 0 c]).run P W = .ok (.slice B n cap) W := by
  cases A <;> cases B <;> simp [Builtin.append_, run_underlying ht, sizeOf, typeInfo, hi, Builtin.lenOf, Builtin.firstCells, storeCells, loadCells, loadCellsFrom, Result.andThen, h]
end Go.Proofs.YtoldhocdfkndbaaGreatDoor.E5
