/-
  ExprOps, its examples' contract given.
-/
import Derived.Test.YtiboolnampnhfaaGreatDoorEWk
import Derived.Test.YtiboolnampnhfaaGreatDoorESg
namespace Go.Proofs.YtiboolnampnhfaaGreatDoor.E5
open Go Go.RowKit Go.Proofs.YtiboolnampnhfaaGreatDoor

/-- The examples hold. -/
def WorksR : Prop := ∀ w : World, GlobA w → Calls Tryz.prog 11 #[] w fun e w' => e = .returned (.bool true) ∧ Below w.heap.size w w'

set_option maxHeartbeats 1000000 in
theorem ops_law (hWk : WorksR) (x0 : ByteArray) (x1 : Int) (w : World) (hG : GlobA w) :
    Calls Tryz.prog 4 #[.string x0, .int .i64 x1] w fun e w' => e = .returned (.bool true) ∧ Below w.heap.size w w' := by
  have HWk := Lib.hid hWk
  have HG := Lib.hid hG
  obtain ⟨s, rfl⟩ : ∃ s : Bytes, x0 = B s := ⟨x0.data.toList, rfl⟩
  clear hG hWk
  by_cases hl : s.length ≤ 100
  · have hl' : (((B s).size : Nat) : Int) ≤ 100 := by show ((s.toArray.size : Nat) : Int) ≤ 100; simp; omega
    go_enter Tryz.func4, Tryz.ntmps4
    go_wp2_with fail
    refine (op_calls s _ HG.out.e.o).mono ?_
    rintro e w1 ⟨rfl, hb⟩
    have HB := Lib.hid hb
    clear hb
    go_wp2_with fail
    refine (refop_calls s _).mono ?_
    rintro e w2 ⟨rfl, hb⟩
    have HB := Lib.hid (after HB.out hb)
    clear hb
    go_wp2_with fail
    refine (sign_calls x1 _ (HG.out.up HB.out).e.o).mono ?_
    rintro e w3 ⟨rfl, hb⟩
    have HB := Lib.hid (after HB.out hb)
    clear hb
    go_wp2_with fail
    refine (refsign_calls x1 _).mono ?_
    rintro e w4 ⟨rfl, hb⟩
    have HB := Lib.hid (after HB.out hb)
    clear hb
    go_wp2_with fail
    refine (HWk.out _ (HG.out.up HB.out)).mono ?_
    rintro e w5 ⟨rfl, hb⟩
    have HB := Lib.hid (after HB.out hb)
    clear hb
    go_wp2_with fail
    go_ret
    exact ⟨rfl, HB.out⟩
  · have hl' : ¬ (((B s).size : Nat) : Int) ≤ 100 := by show ¬ ((s.toArray.size : Nat) : Int) ≤ 100; simp; omega
    go_enter Tryz.func4, Tryz.ntmps4
    go_wp2_with fail
    refine (HWk.out _ HG.out).mono ?_
    rintro e w5 ⟨rfl, hb⟩
    have HB := Lib.hid hb
    clear hb
    go_wp2_with fail
    go_ret
    exact ⟨rfl, HB.out⟩
end Go.Proofs.YtiboolnampnhfaaGreatDoor.E5
