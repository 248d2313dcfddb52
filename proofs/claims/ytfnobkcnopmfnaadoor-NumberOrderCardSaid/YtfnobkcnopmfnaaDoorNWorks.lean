/-
  The examples of the chapter: rewindlaw02.works returns true.
-/
import Derived.Test.YtfnobkcnopmfnaaDoorNRefList
import Derived.Test.YtfnobkcnopmfnaaDoorNSame
import Derived.Test.YtfnobkcnopmfnaaDoorNCmp
namespace Go.Proofs.YtfnobkcnopmfnaaDoor
open Go Go.RowKit Go.Shelf Go.Sort

abbrev sA : ByteArray := ⟨#[45, 57, 50, 50, 51, 51, 55, 50, 48, 51, 54, 56, 53, 52, 55, 55, 53, 56, 48, 56]⟩
abbrev sB : ByteArray := ⟨#[57, 50, 50, 51, 51, 55, 50, 48, 51, 54, 56, 53, 52, 55, 55, 53, 56, 48, 56]⟩
abbrev sC : ByteArray := ⟨#[45, 48]⟩
abbrev sL : ByteArray := ⟨#[49, 44, 45, 50, 44, 51]⟩
abbrev sM : ByteArray := ⟨#[49, 44, 32, 50]⟩

theorem ex_parse1 (w : World) (hG : Glob w) : Calls Tryd.prog 12 #[.string sA] w fun e w' => e = .returned (.tuple #[.int .i64 (-9223372036854775808), .int .i64 0]) ∧ Below w.heap.size w w' := by
  have h := parse_calls sA w hG
  rw [show numParse sA.data.toList = some (-9223372036854775808) by decide +kernel] at h
  exact h

theorem ex_parse2 (w : World) (hG : Glob w) : Calls Tryd.prog 12 #[.string sB] w fun e w' => e = .returned (.tuple #[.int .i64 0, .int .i64 7]) ∧ Below w.heap.size w w' := by
  have h := parse_calls sB w hG
  rw [show numParse sB.data.toList = none by decide +kernel] at h
  exact h

theorem ex_parse3 (w : World) (hG : Glob w) : Calls Tryd.prog 12 #[.string sC] w fun e w' => e = .returned (.tuple #[.int .i64 0, .int .i64 7]) ∧ Below w.heap.size w w' := by
  have h := parse_calls sC w hG
  rw [show numParse sC.data.toList = none by decide +kernel] at h
  exact h

theorem ex_do1 (w : World) : Calls Tryd.prog 19 #[.int .i64 1, .int .i64 9223372036854775807, .int .i64 1] w fun e w' => e = .returned (.tuple #[.int .i64 (-9223372036854775808), .int .i64 0, .int .i64 0]) ∧ w = w' := by
  have h := do_calls 1 9223372036854775807 1 w
  rw [show doN 1 9223372036854775807 1 = some (-9223372036854775808, 0) by decide +kernel] at h
  exact h

theorem ex_do2 (w : World) : Calls Tryd.prog 19 #[.int .i64 4, .int .i64 (-7), .int .i64 2] w fun e w' => e = .returned (.tuple #[.int .i64 (-3), .int .i64 0, .int .i64 0]) ∧ w = w' := by
  have h := do_calls 4 (-7) 2 w
  rw [show doN 4 (-7) 2 = some (-3, 0) by decide +kernel] at h
  exact h

theorem ex_do3 (w : World) : Calls Tryd.prog 19 #[.int .i64 5, .int .i64 (-9223372036854775808), .int .i64 (-1)] w fun e w' => e = .returned (.tuple #[.int .i64 (0), .int .i64 0, .int .i64 0]) ∧ w = w' := by
  have h := do_calls 5 (-9223372036854775808) (-1) w
  rw [show doN 5 (-9223372036854775808) (-1) = some (0, 0) by decide +kernel] at h
  exact h

theorem ex_do4 (w : World) : Calls Tryd.prog 19 #[.int .i64 4, .int .i64 1, .int .i64 0] w fun e w' => e = .returned (.tuple #[.int .i64 (0), .int .i64 1, .int .i64 0]) ∧ w = w' := by
  have h := do_calls 4 1 0 w
  rw [show doN 4 1 0 = some (0, 1) by decide +kernel] at h
  exact h

theorem ex_do5 (w : World) : Calls Tryd.prog 19 #[.int .i64 6, .int .i64 1, .int .i64 1] w fun e w' => e = .returned (.tuple #[.int .i64 (0), .int .i64 0, .int .i64 2]) ∧ w = w' := by
  have h := do_calls 6 1 1 w
  rw [show doN 6 1 1 = none by decide +kernel] at h
  exact h

theorem ex_cmp1 (w : World) : Calls Tryd.prog 21 #[.int .i64 8, .int .i64 (-1), .int .i64 0] w fun e w' => e = .returned (.tuple #[.bool true, .int .i64 0]) ∧ Below w.heap.size w w' := by
  have h := compare_calls 8 (-1) 0 w
  rw [show cmpN 8 (-1) 0 = some true by decide +kernel] at h
  exact h

theorem ex_cmp2 (w : World) : Calls Tryd.prog 21 #[.int .i64 1, .int .i64 1, .int .i64 1] w fun e w' => e = .returned (.tuple #[.bool false, .int .i64 2]) ∧ Below w.heap.size w w' := by
  have h := compare_calls 1 1 1 w
  rw [show cmpN 1 1 1 = none by decide +kernel] at h
  exact h

theorem ex_list1 (w : World) (hG : Glob w) : Calls Tryd.prog 14 #[.string sL] w fun e w' => ∃ v, e = .returned (.tuple #[v, .int .i64 0]) ∧ Ints w' v [1, -2, 3] ∧ Below w.heap.size w w' := by
  have h := list_calls sL (by decide) w hG
  unfold ListIs at h
  rw [show numList sL.data.toList = some [1, -2, 3] by decide +kernel] at h
  exact h
theorem ex_list2 (w : World) (hG : Glob w) : Calls Tryd.prog 14 #[.string sM] w fun e w' => ∃ v, e = .returned (.tuple #[v, .int .i64 7]) ∧ Ints w' v [] ∧ Below w.heap.size w w' := by
  have h := list_calls sM (by decide) w hG
  unfold ListIs at h
  rw [show numList sM.data.toList = none by decide +kernel] at h
  exact h
theorem ex_neg (w : World) : Calls Tryd.prog 23 #[.int .i64 (-9223372036854775808)] w fun e w' => e = .returned (.int .i64 (-9223372036854775808)) ∧ w = w' := by
  have h := negate_calls (-9223372036854775808) w
  rw [show wrap64 (-(-9223372036854775808)) = -9223372036854775808 by decide +kernel] at h
  exact h
theorem Ints.alloc {W : World} {v : Value} {l : List Int} (h : Ints W v l) (o : Obj) : Ints (W.alloc o) v l := h.below ((Below.refl _ W).alloc (Nat.le_refl _) o)
theorem Ints.new (W : World) (ns : List Int) (T : TypeId) (c : Nat) : Ints (W.alloc (.cells (ns.map (Value.int .i64)).toArray T)) (.slice (some ⟨W.heap.size, 0, none⟩) ns.length c) ns := by
  refine ⟨.inr ⟨W.heap.size, 0, c, rfl, by simp, fun k n hk => ?_⟩⟩
  have := World.alloc_heap_new W (.cells (ns.map (Value.int .i64)).toArray T)
  unfold World.cell?
  simp only [this, Nat.zero_add]
  simp [hk]
theorem sameL (v : Value) (W : World) (h : Ints W v [1, -2, 3]) (c : Nat) :
    Calls Tryd.prog 18 #[v, .slice (some ⟨W.heap.size, 0, none⟩) 3 c] (W.alloc (.cells #[.int .i64 1, .int .i64 (-2), .int .i64 3] 2)) fun e w' => e = .returned (.bool true) ∧ Below W.heap.size W w' := by
  have h2 := same_ref v _ [1, -2, 3] [1, -2, 3] _ (h.alloc (.cells #[.int .i64 1, .int .i64 (-2), .int .i64 3] 2)) (Ints.new W [1, -2, 3] 2 c) (by simp)
  refine h2.mono fun e w' ⟨h3, h4⟩ => ⟨h3, ?_⟩
  exact ((Below.refl _ W).alloc (Nat.le_refl _) _).trans (h4.mono (by simp))

set_option maxRecDepth 100000 in
set_option maxHeartbeats 4000000 in
theorem works_calls (w : World) (hG : Glob w) : Calls Tryd.prog 11 #[] w fun e w' => e = .returned (.bool true) ∧ Below w.heap.size w w' := by
  have HG := Lib.hid hG
  clear hG
  go_enter Tryd.func11, Tryd.ntmps11
  have B0 := Lib.hid (Below.refl w.heap.size w)
  go_wp2_with fail
  refine (ex_parse1 _ (HG.out.below B0.out)).mono ?_
  rintro e w1 ⟨rfl, hb⟩
  have B1 := Lib.hid (after B0.out hb)
  clear hb B0
  go_wp2_with fail
  refine (ex_parse2 _ (HG.out.below B1.out)).mono ?_
  rintro e w2 ⟨rfl, hb⟩
  have B2 := Lib.hid (after B1.out hb)
  clear hb B1
  go_wp2_with fail
  refine (ex_parse3 _ (HG.out.below B2.out)).mono ?_
  rintro e w3 ⟨rfl, hb⟩
  have B3 := Lib.hid (after B2.out hb)
  clear hb B2
  go_wp2_with fail
  refine (ex_do1 _).mono ?_
  rintro e w' ⟨rfl, rfl⟩
  go_wp2_with fail
  refine (ex_do2 _).mono ?_
  rintro e w' ⟨rfl, rfl⟩
  go_wp2_with fail
  refine (ex_do3 _).mono ?_
  rintro e w' ⟨rfl, rfl⟩
  go_wp2_with fail
  refine (ex_do4 _).mono ?_
  rintro e w' ⟨rfl, rfl⟩
  go_wp2_with fail
  refine (ex_do5 _).mono ?_
  rintro e w' ⟨rfl, rfl⟩
  go_wp2_with fail
  refine (ex_cmp1 _).mono ?_
  rintro e w4 ⟨rfl, hb⟩
  have B4 := Lib.hid (after B3.out hb)
  clear hb B3
  go_wp2_with fail
  refine (ex_cmp2 _).mono ?_
  rintro e w5 ⟨rfl, hb⟩
  have B5 := Lib.hid (after B4.out hb)
  clear hb B4
  go_wp2_with fail
  refine (ex_list1 _ (HG.out.below B5.out)).mono ?_
  rintro e w6 ⟨v, rfl, hi, hb⟩
  have B6 := Lib.hid (after B5.out hb)
  have I1 := Lib.hid hi
  clear hb hi B5
  go_wp2_with fail
  refine (ex_list2 _ (HG.out.below B6.out)).mono ?_
  rintro e w7 ⟨v2, rfl, -, hb⟩
  have B7 := Lib.hid (after B6.out hb)
  have I2 := Lib.hid (I1.out.below hb)
  clear hb I1 B6
  go_wp2_with fail
  refine (ex_neg _).mono ?_
  rintro e w' ⟨rfl, rfl⟩
  go_wp2_with fail
  refine (sameL v _ I2.out _).mono ?_
  rintro e w8 ⟨rfl, hb⟩
  have B8 := Lib.hid (after B7.out hb)
  go_wp2_with fail
  go_ret
  exact ⟨rfl, B8.out⟩
end Go.Proofs.YtfnobkcnopmfnaaDoor
