/-
  The law's own small functions: scan, variable, number, pair: contracts.
  ExprOps, its examples' contract given.
-/
import Derived.Test.YtoldhocdfkndbaaGreatDoorERead2
import Derived.Test.YtoldhocdfkndbaaGreatDoorEWf
import Derived.Test.YtoldhocdfkndbaaGreatDoorLHas
import Derived.Test.YtoldhocdfkndbaaGreatDoorLMath
import Derived.Test.YtoldhocdfkndbaaGreatDoorESg
namespace Go.Proofs.YtoldhocdfkndbaaGreatDoor.E5
open Go Go.RowKit Go.Proofs.YtoldhocdfkndbaaGreatDoor

/-- All the variables that the laws of expressions lean on. -/
structure GlobA (w : World) : Prop where
  e : GlobE w
  l : L4.Glob w
theorem GlobA.up {w w' : World} (h : GlobA w) (hb : Below w.heap.size w w') : GlobA w' := ⟨h.e.up hb, h.l.below hb⟩
theorem GlobA.al {w : World} (h : GlobA w) (o : Obj) : GlobA (w.alloc o) := h.up ((Below.refl _ w).alloc (Nat.le_refl _) o)

theorem TokL.val {w : World} {M : Nat} {v : Value} {l : TL} (h : TokL w M v l) : ∃ A c, v = .slice A l.length c := by obtain ⟨A, c, h, _⟩ := h; exact ⟨A, c, h⟩
theorem number_calls (n : Int) (w : World) : Calls Tryz.prog 52 #[.int .i64 n] w fun e w' => e = .returned (S3.eV (nE n) (.slice none 0 0)) ∧ Below w.heap.size w w' := by
  go_enter Tryz.func52, Tryz.ntmps52
  go_wp2_with fail
  exact bodyPost_ret (v := S3.eV (nE n) (.slice none 0 0)) (by simp [results, Tryz.results52, go_sem, nE]) rfl ⟨rfl, S3.bal _ _⟩
end Go.Proofs.YtoldhocdfkndbaaGreatDoor.E5

namespace Go.Proofs.YtoldhocdfkndbaaGreatDoor.E5
open Go Go.RowKit Go.Proofs.YtoldhocdfkndbaaGreatDoor

end Go.Proofs.YtoldhocdfkndbaaGreatDoor.E5
