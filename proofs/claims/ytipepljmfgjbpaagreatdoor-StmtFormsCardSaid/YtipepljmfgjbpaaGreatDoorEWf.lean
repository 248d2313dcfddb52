/-
  The examples of works, as plain facts. No program is named here.
-/
import Derived.Test.YtipepljmfgjbpaaGreatDoorEMath
import Derived.Test.YtipepljmfgjbpaaGreatDoorLMath
import Derived.Tactics
namespace Go.Proofs.YtipepljmfgjbpaaGreatDoor.E5
open Go Go.Proofs.YtipepljmfgjbpaaGreatDoor

end Go.Proofs.YtipepljmfgjbpaaGreatDoor.E5
