/-
  StmtTypes, the examples' contract given.
-/
import Derived.Test.YtoldhocdfkndbaaGreatDoorTLwsZ
import Derived.Test.YtoldhocdfkndbaaGreatDoorTLwsN
namespace Go.Proofs.YtoldhocdfkndbaaGreatDoor.E6
open Go Go.RowKit Go.Proofs.YtoldhocdfkndbaaGreatDoor Go.Proofs.YtoldhocdfkndbaaGreatDoor.E5

set_option maxRecDepth 100000 in
set_option maxHeartbeats 40000000 in
theorem types_law (hWk : WorksR6) (x0 : ByteArray) (x1 : Int) (w : World) (hG : Glob6 w) :
    Calls Tryz.prog 13 #[.string x0, .int .i64 x1] w fun e w' => e = .returned (.bool true) ∧ Below w.heap.size w w' := by
  obtain ⟨s, rfl⟩ : ∃ s : Bytes, x0 = B s := ⟨x0.data.toList, rfl⟩
  by_cases hl : s.length ≤ 100
  · by_cases h0 : typW s = 0
    · by_cases h1 : x1 < 1
      · exact types_zlo hWk s hl x1 h0 h1 w hG
      · by_cases h2 : 3 < x1
        · exact types_zhi hWk s hl x1 h0 h2 w hG
        · exact types_zin hWk s hl x1 h0 ⟨by omega, by omega⟩ w hG
    · by_cases h1 : x1 < 1
      · exact types_nlo hWk s hl x1 h0 h1 w hG
      · by_cases h2 : 3 < x1
        · exact types_nhi hWk s hl x1 h0 h2 w hG
        · exact types_nin hWk s hl x1 h0 ⟨by omega, by omega⟩ w hG
  · have hl' : (100 : Int) < (((B s).size : Nat) : Int) := by show (100 : Int) < ((s.toArray.size : Nat) : Int); simp; omega
    have HWk := Lib.hid hWk
    have HG := Lib.hid hG
    clear hG hWk
    go_enter Tryz.func13, Tryz.ntmps13
    go_wp2_with fail
    refine (HWk.out _ HG.out).mono ?_
    rintro E w1 ⟨rfl, hb⟩
    have HB1 := Lib.hid (hb)
    clear hb
    go_wp2_with fail
    go_ret
    exact ⟨rfl, HB1.out⟩
end Go.Proofs.YtoldhocdfkndbaaGreatDoor.E6
