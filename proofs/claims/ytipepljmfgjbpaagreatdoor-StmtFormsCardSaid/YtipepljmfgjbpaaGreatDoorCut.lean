/-
  strings.Cut AT A SEPARATOR OF ONE BYTE, at every text (no bound).
-/
import Derived.Test.YtipepljmfgjbpaaGreatDoorLBase
import Derived.Test.YtipepljmfgjbpaaGreatDoorShelf
import Derived.Lib.CutLaws
import Derived.WalkKit
import Derived.RegionTactic
import Derived.ChangeAlike
import Derived.BigQuiet
import Derived.Deep.QuietTactic
import Derived.WalkSmall
import Derived.ShutString
import Derived.IntWalk
namespace Go.Proofs.YtipepljmfgjbpaaGreatDoor.L4
open Go Go.RowKit


end Go.Proofs.YtipepljmfgjbpaaGreatDoor.L4
