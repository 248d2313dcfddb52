/-
  Equality of expressions: equalExprs, slices.EqualFunc at expressions, SameExpr: contracts.
-/
import Derived.Test.YtoldhocdfkndbaaGreatDoorSDepth
namespace Go.Proofs.YtoldhocdfkndbaaGreatDoor.S3
open Go Go.RowKit

/-- What equalExprs says of two expressions. -/
def EqC (x y : Ex) : Prop := ∀ (vx vy : Value) (w : World), OkE x → OkE y → EIn w w.heap.size x.args vx → EIn w w.heap.size y.args vy →
  Calls Tryz.prog 69 #[eV x vx, eV y vy] w fun r w' => r = .returned (.bool (eqE x y)) ∧ Below w.heap.size w w'

end Go.Proofs.YtoldhocdfkndbaaGreatDoor.S3
