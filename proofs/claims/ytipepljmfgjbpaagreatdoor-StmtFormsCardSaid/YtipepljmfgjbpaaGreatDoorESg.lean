/-
  The reference's signs and ranks, its Op and Sign: contracts.
-/
import Derived.Test.YtipepljmfgjbpaaGreatDoorEOp
import Derived.Deep.RegionWith
import Derived.IntWalk
namespace Go.Proofs.YtipepljmfgjbpaaGreatDoor.E5
open Go Go.RowKit Go.Proofs.YtipepljmfgjbpaaGreatDoor

end Go.Proofs.YtipepljmfgjbpaaGreatDoor.E5
