/-
  firstRow, firstSign, name, number: contracts.
-/
import Derived.Test.YtipepljmfgjbpaaGreatDoorLBase
import Derived.Test.YtipepljmfgjbpaaGreatDoorShelf
import Derived.Lib.Strings
import Derived.Lib.AppendIntMem
namespace Go.Proofs.YtipepljmfgjbpaaGreatDoor.L4
open Go Go.RowKit Go.Sort

theorem B_size (s : Bytes) : (B s).size = s.length := by simp [ByteArray.size]
theorem take_all (p : UInt8 → Bool) (l : Bytes) (k : Nat) (h : k < l.length) : (l.take (k + 1)).all p = ((l.take k).all p && p (l[k])) := by
  rw [List.take_succ_eq_append_getElem h]; simp only [List.all_append, List.all_cons, List.all_nil, Bool.and_true]

end Go.Proofs.YtipepljmfgjbpaaGreatDoor.L4
