/-
  number.divide, Do, Negate, and the reference's: contracts.
-/
import Derived.Test.YtkpbplmmphpokaaGreatDoorNBase
namespace Go.Proofs.YtkpbplmmphpokaaGreatDoor.N2
open Go Go.RowKit Go.Sort

/-- The result of an operator, and its trap, if the operator is there. -/
def doN (op a b : Int) : Option (Int × Int) :=
  if op = 1 then some (wrap64 (a + b), 0) else if op = 2 then some (wrap64 (a - b), 0) else if op = 3 then some (wrap64 (a * b), 0)
  else if op = 4 then (if b = 0 then some (0, 1) else some (wrap64 (a.tdiv b), 0))
  else if op = 5 then (if b = 0 then some (0, 1) else some (a.tmod b, 0)) else none
def encD : Option (Int × Int) → Value
  | some (v, t) => .tuple #[.int .i64 v, .int .i64 t, .int .i64 0]
  | none => .tuple #[.int .i64 0, .int .i64 0, .int .i64 2]

theorem negate_calls (a : Int) (w : World) :
    Calls Tryz.prog 231 #[.int .i64 a] w fun e w' => e = .returned (.int .i64 (wrap64 (-a))) ∧ w = w' := by
  go_enter Tryz.func231, Tryz.ntmps231
  go_wp2
  go_ret
  exact ⟨rfl, rfl⟩
end Go.Proofs.YtkpbplmmphpokaaGreatDoor.N2
