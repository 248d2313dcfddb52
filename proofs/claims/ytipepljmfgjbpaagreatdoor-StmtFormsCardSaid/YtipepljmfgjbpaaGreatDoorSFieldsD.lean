/-
  The reference's fields: its contract. Written by gen3_fields.py.
  The reference's fields: its contract. Written by gen3_fields.py.
  The reference's fields: its contract. Written by gen3_fields.py.
  The reference's fields: its contract. Written by gen3_fields.py.
-/
import Derived.Test.YtipepljmfgjbpaaGreatDoorSNm
import Derived.Lib.QuietBelow
namespace Go.Proofs.YtipepljmfgjbpaaGreatDoor.S3
open Go Go.RowKit Go.Sort

end Go.Proofs.YtipepljmfgjbpaaGreatDoor.S3

namespace Go.Proofs.YtipepljmfgjbpaaGreatDoor.S3
open Go Go.RowKit Go.Sort


end Go.Proofs.YtipepljmfgjbpaaGreatDoor.S3

namespace Go.Proofs.YtipepljmfgjbpaaGreatDoor.S3
open Go Go.RowKit Go.Sort


end Go.Proofs.YtipepljmfgjbpaaGreatDoor.S3

namespace Go.Proofs.YtipepljmfgjbpaaGreatDoor.S3
open Go Go.RowKit Go.Sort


end Go.Proofs.YtipepljmfgjbpaaGreatDoor.S3
