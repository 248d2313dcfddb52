/-
  NumberDoes: the law's walk.
-/
import Derived.Test.YtfnobkcnopmfnaaDoorNFrame
namespace Go.Proofs.YtfnobkcnopmfnaaDoor.does
open Go Go.RowKit Go.Proofs.YtfnobkcnopmfnaaDoor

set_option maxRecDepth 100000 in
set_option maxHeartbeats 4000000 in
theorem law (op a b : Int) (_h1 : -9223372036854775808 ≤ op) (_h2 : op ≤ 9223372036854775807) (_h3 : -9223372036854775808 ≤ a) (_h4 : a ≤ 9223372036854775807) (_h5 : -9223372036854775808 ≤ b) (_h6 : b ≤ 9223372036854775807) (w : World) (hG : Glob w) :
    Calls Tryd.prog 4 #[.int .i64 op, .int .i64 a, .int .i64 b] w fun e w' => e = .returned (.bool true) ∧ Below w.heap.size w w' := by
  have HG := Lib.hid hG
  have hD : ∃ x t e : Int, encD (doN op a b) = .tuple #[.int .i64 x, .int .i64 t, .int .i64 e] := by
    cases doN op a b with
    | none => exact ⟨_, _, _, rfl⟩
    | some p => exact ⟨_, _, _, rfl⟩
  have hC : ∃ (x : Bool) (e : Int), encC (cmpN op a b) = .tuple #[.bool x, .int .i64 e] := by
    cases cmpN op a b with
    | none => exact ⟨_, _, rfl⟩
    | some p => exact ⟨_, _, rfl⟩
  obtain ⟨x, t, e, hD⟩ := hD
  obtain ⟨is, g, hC⟩ := hC
  have D1 := do_calls op a b
  have D2 := do_ref op a b
  have C1 := compare_calls op a b
  have C2 := compare_ref op a b
  rw [hD] at D1 D2
  rw [hC] at C1 C2
  have HD1 := Lib.hid D1
  have HD2 := Lib.hid D2
  have HC1 := Lib.hid C1
  have HC2 := Lib.hid C2
  clear hG D1 D2 C1 C2 hD hC
  go_enter Tryd.func4, Tryd.ntmps4
  go_wp2_with fail
  refine (HD1.out _).mono ?_
  rintro e w' ⟨rfl, rfl⟩
  go_wp2_with fail
  refine (HD2.out _).mono ?_
  rintro e w' ⟨rfl, rfl⟩
  go_wp2_with fail
  refine (HC1.out _).mono ?_
  rintro e w1 ⟨rfl, hb⟩
  have B1 := Lib.hid hb
  clear hb
  go_wp2_with fail
  refine (HC2.out _).mono ?_
  rintro e w' ⟨rfl, rfl⟩
  clear HD1 HD2 HC1 HC2
  go_wp2_with fail
  refine (negate_calls _ _).mono ?_
  rintro e w' ⟨rfl, rfl⟩
  go_wp2_with fail
  refine (negate_ref _ _).mono ?_
  rintro e w' ⟨rfl, rfl⟩
  go_wp2_with fail
  refine (works_calls _ (HG.out.below B1.out)).mono ?_
  rintro e w2 ⟨rfl, hb⟩
  have B2 := Lib.hid (after B1.out hb)
  clear hb B1
  go_wp2_with fail
  go_ret
  exact ⟨rfl, B2.out⟩
end Go.Proofs.YtfnobkcnopmfnaaDoor.does
