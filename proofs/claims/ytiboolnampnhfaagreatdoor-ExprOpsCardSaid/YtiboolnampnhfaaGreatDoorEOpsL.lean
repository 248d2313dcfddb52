/-
  ExprOps: the law returns true.
-/
import Derived.Test.YtiboolnampnhfaaGreatDoorEOps
import Derived.Test.YtiboolnampnhfaaGreatDoorEWorks
import Derived.Test.YtiboolnampnhfaaGreatDoorEFrame
namespace Go.Proofs.YtiboolnampnhfaaGreatDoor.E5.ops
open Go Go.RowKit Go.Proofs.YtiboolnampnhfaaGreatDoor Go.Proofs.YtiboolnampnhfaaGreatDoor.E5

theorem worksR : WorksR := fun w hG => works_calls w hG
theorem law (x0 : ByteArray) (x1 : Int) (_hm : x0.size ≤ 9223372036854775807) (_h1 : -9223372036854775808 ≤ x1) (_h2 : x1 ≤ 9223372036854775807) (w : World) (hG : GlobA w) :
    Calls Tryz.prog 4 #[.string x0, .int .i64 x1] w fun e w' => e = .returned (.bool true) ∧ Below w.heap.size w w' := ops_law worksR x0 x1 w hG
end Go.Proofs.YtiboolnampnhfaaGreatDoor.E5.ops
