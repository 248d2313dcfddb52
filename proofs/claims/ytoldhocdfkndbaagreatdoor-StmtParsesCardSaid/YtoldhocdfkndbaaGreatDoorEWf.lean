/-
  The examples of works, as plain facts. No program is named here.
-/
import Derived.Test.YtoldhocdfkndbaaGreatDoorEMath
import Derived.Test.YtoldhocdfkndbaaGreatDoorLMath
import Derived.Tactics
namespace Go.Proofs.YtoldhocdfkndbaaGreatDoor.E5
open Go Go.Proofs.YtoldhocdfkndbaaGreatDoor

def nE (n : Int) : Ex := ⟨1, 0, n, [], []⟩
end Go.Proofs.YtoldhocdfkndbaaGreatDoor.E5
