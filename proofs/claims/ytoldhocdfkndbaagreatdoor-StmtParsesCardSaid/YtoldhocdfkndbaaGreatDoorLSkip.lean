/-
  skip, of both: contracts.
-/
import Derived.Test.YtoldhocdfkndbaaGreatDoorLRow
import Derived.Test.YtoldhocdfkndbaaGreatDoorCut
import Derived.WalkMore
namespace Go.Proofs.YtoldhocdfkndbaaGreatDoor.L4
open Go Go.RowKit Go.Sort

end Go.Proofs.YtoldhocdfkndbaaGreatDoor.L4
