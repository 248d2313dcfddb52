/-
  The reference's fields: its contract. Written by gen3_fields.py.
-/
import Derived.Test.YthiilnhiihfknaaDoorSFits
import Derived.Lib.QuietBelow
namespace Go.Proofs.YthiilnhiihfknaaDoor
open Go Go.RowKit Go.Sort

/-- The fields of an expression but its Args are as its kind has to have them. -/
def fldB (e : Ex) : Bool := match exRow e.kind with
  | none => false
  | some r => howB e.name r.name && (decide (r.first ≤ e.op) && decide (e.op ≤ r.last)) && (decide (0 ≤ e.num) && decide (e.num ≤ r.most))
def fldN (k : Int) : Int := match exRow k with
  | none => 0
  | some r => r.args
theorem fitB_fld (e : Ex) : fitB e = (fldB e && decide ((e.args.length : Int) = fldN e.kind)) := by
  unfold fitB fldB fldN
  cases exRow e.kind with
  | none => rfl
  | some r =>
    have e1 : decide ((e.args.length : Int) = (r.args : Int)) = decide (e.args.length = r.args) := by rw [decide_eq_decide]; omega
    simp only [e1]
    simp [rowFit, Bool.and_assoc]
end Go.Proofs.YthiilnhiihfknaaDoor
