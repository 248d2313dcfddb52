/-
  The law's own small functions: scan, variable, number, pair: contracts.
  ExprOps, its examples' contract given.
-/
import Derived.Test.YtipepljmfgjbpaaGreatDoorERead2
import Derived.Test.YtipepljmfgjbpaaGreatDoorEWf
import Derived.Test.YtipepljmfgjbpaaGreatDoorLSkip
import Derived.Test.YtipepljmfgjbpaaGreatDoorLMath
import Derived.Test.YtipepljmfgjbpaaGreatDoorESg
namespace Go.Proofs.YtipepljmfgjbpaaGreatDoor.E5
open Go Go.RowKit Go.Proofs.YtipepljmfgjbpaaGreatDoor

end Go.Proofs.YtipepljmfgjbpaaGreatDoor.E5

namespace Go.Proofs.YtipepljmfgjbpaaGreatDoor.E5
open Go Go.RowKit Go.Proofs.YtipepljmfgjbpaaGreatDoor

end Go.Proofs.YtipepljmfgjbpaaGreatDoor.E5
