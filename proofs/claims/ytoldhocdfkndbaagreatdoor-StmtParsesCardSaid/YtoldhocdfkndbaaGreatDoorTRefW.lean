/-
  The reference's Type and Word: contracts. Written by gen6_refw.py.
-/
import Derived.Test.YtoldhocdfkndbaaGreatDoorTWord
namespace Go.Proofs.YtoldhocdfkndbaaGreatDoor.E6
open Go Go.RowKit Go.Proofs.YtoldhocdfkndbaaGreatDoor Go.Proofs.YtoldhocdfkndbaaGreatDoor.E5

end Go.Proofs.YtoldhocdfkndbaaGreatDoor.E6
