/-
  StmtWords, the examples' contract given; plain facts of the words of types.
-/
import Derived.Test.YtoldhocdfkndbaaGreatDoorTTok
import Derived.Test.YtoldhocdfkndbaaGreatDoorTRefW
namespace Go.Proofs.YtoldhocdfkndbaaGreatDoor.E6
open Go Go.RowKit Go.Proofs.YtoldhocdfkndbaaGreatDoor Go.Proofs.YtoldhocdfkndbaaGreatDoor.E5

set_option maxRecDepth 100000 in
set_option maxHeartbeats 40000000 in
theorem words_law (hWk : WorksR6) (x0 : ByteArray) (x1 : Int) (w : World) (hG : Glob6 w) :
    Calls Tryz.prog 10 #[.string x0, .int .i64 x1] w fun e w' => e = .returned (.bool true) ∧ Below w.heap.size w w' := by
  have HWk := Lib.hid hWk
  have HG := Lib.hid hG
  obtain ⟨s, rfl⟩ : ∃ s : Bytes, x0 = B s := ⟨x0.data.toList, rfl⟩
  clear hG hWk
  by_cases hl : s.length ≤ 1000
  · have hl' : (((B s).size : Nat) : Int) ≤ 1000 := by show ((s.toArray.size : Nat) : Int) ≤ 1000; simp; omega
    have qt : (typW s == typW s) = true := beq_self_eq_true _
    have qw : (wordT x1 == wordT x1) = true := beq_self_eq_true _
    have T1 := Lib.hid (type_calls s w HG.out.g)
    have T2 := Lib.hid (fun W => reftype_calls s W)
    have T3 := Lib.hid (fun W hW => word_calls x1 W hW)
    have T4 := Lib.hid (fun W => refword_calls x1 W)
    generalize typW s = a at *
    generalize wordT x1 = b at *
    go_enter Tryz.func10, Tryz.ntmps10
    go_wp2_with fail
    refine (T1.out).mono ?_
    rintro E w1 ⟨rfl, hb⟩
    have HB1 := Lib.hid (hb)
    clear hb
    go_wp2_with fail
    refine (T2.out _).mono ?_
    rintro E w2 ⟨rfl, hb⟩
    have HB2 := Lib.hid (after HB1.out hb)
    clear hb
    go_wp2_with fail
    refine (T3.out _ (HG.out.up HB2.out).g).mono ?_
    rintro E w3 ⟨rfl, hb⟩
    have HB3 := Lib.hid (after HB2.out hb)
    clear hb
    go_wp2_with fail
    refine (T4.out _).mono ?_
    rintro E w4 ⟨rfl, hb⟩
    have HB4 := Lib.hid (after HB3.out hb)
    clear hb
    go_wp2_with fail
    refine (HWk.out _ (HG.out.up HB4.out)).mono ?_
    rintro E w5 ⟨rfl, hb⟩
    have HB5 := Lib.hid (after HB4.out hb)
    clear hb
    go_wp2_with fail
    go_ret
    exact ⟨rfl, HB5.out⟩
  · have hl' : (1000 : Int) < (((B s).size : Nat) : Int) := by show (1000 : Int) < ((s.toArray.size : Nat) : Int); simp; omega
    go_enter Tryz.func10, Tryz.ntmps10
    go_wp2_with fail
    refine (HWk.out _ HG.out).mono ?_
    rintro E w1 ⟨rfl, hb⟩
    have HB1 := Lib.hid (hb)
    clear hb
    go_wp2_with fail
    go_ret
    exact ⟨rfl, HB1.out⟩
theorem typ_back {s : Bytes} (h : typW s ≠ 0) : wordT (typW s) = s := by
  by_cases h1 : s = wInt
  · subst h1; rfl
  by_cases h2 : s = wBool
  · subst h2; rfl
  by_cases h3 : s = wArray
  · subst h3; rfl
  · exfalso; apply h; unfold typW; rw [if_neg h1, if_neg h2, if_neg h3]
theorem word_out {t : Int} (h : t < 1 ∨ 3 < t) : wordT t = [] := by
  unfold wordT; rw [if_neg (by omega), if_neg (by omega), if_neg (by omega)]
theorem word_in {t : Int} (h : 1 ≤ t ∧ t ≤ 3) : wordT t ≠ [] := by
  have : t = 1 ∨ t = 2 ∨ t = 3 := by omega
  rcases this with rfl | rfl | rfl <;> decide
end Go.Proofs.YtoldhocdfkndbaaGreatDoor.E6
