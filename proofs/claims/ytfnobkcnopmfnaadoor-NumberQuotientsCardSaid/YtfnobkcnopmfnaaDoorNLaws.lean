/-
  NumberLaws: the law's walk.
-/
import Derived.Test.YtfnobkcnopmfnaaDoorNFrame
namespace Go.Proofs.YtfnobkcnopmfnaaDoor.laws
open Go Go.RowKit Go.Proofs.YtfnobkcnopmfnaaDoor

theorem wrap_ex (n : Int) : ∃ k, wrap64 n = n + 18446744073709551616 * k := by
  unfold wrap64
  exact ⟨-((n + 9223372036854775808) / 18446744073709551616), by omega⟩
theorem wrap_add (n k : Int) : wrap64 (n + 18446744073709551616 * k) = wrap64 n := by unfold wrap64; omega
theorem wrap_mul (m c : Int) : wrap64 (wrap64 m * c) = wrap64 (m * c) := by
  obtain ⟨k, hk⟩ := wrap_ex m
  rw [hk, Int.add_mul, Int.mul_assoc, wrap_add]
theorem wrap_mul2 (m c : Int) : wrap64 (c * wrap64 m) = wrap64 (c * m) := by rw [Int.mul_comm, wrap_mul, Int.mul_comm]

theorem doOk (op a b v : Int) (h : doN op a b = some (v, 0)) (w : World) :
    Calls Tryd.prog 25 #[.int .i64 op, .int .i64 a, .int .i64 b] w fun e w' => e = .returned (.tuple #[.int .i64 v, .bool true]) ∧ w = w' := do_law op a b w v 0 h
theorem doA (a b v : Int) (h : wrap64 (a + b) = v) (w : World) :
    Calls Tryd.prog 25 #[.int .i64 1, .int .i64 a, .int .i64 b] w fun e w' => e = .returned (.tuple #[.int .i64 v, .bool true]) ∧ w = w' := doOk 1 a b v (by rw [← h]; rfl) w
theorem doS (a b v : Int) (h : wrap64 (a - b) = v) (w : World) :
    Calls Tryd.prog 25 #[.int .i64 2, .int .i64 a, .int .i64 b] w fun e w' => e = .returned (.tuple #[.int .i64 v, .bool true]) ∧ w = w' := doOk 2 a b v (by rw [← h]; rfl) w
theorem doM (a b v : Int) (h : wrap64 (a * b) = v) (w : World) :
    Calls Tryd.prog 25 #[.int .i64 3, .int .i64 a, .int .i64 b] w fun e w' => e = .returned (.tuple #[.int .i64 v, .bool true]) ∧ w = w' := doOk 3 a b v (by rw [← h]; rfl) w

/-- What the law's calls give: one result for each. -/
structure Res (op a b c x u v : Int) : Prop where
  ab : ∀ W, Calls Tryd.prog 25 #[.int .i64 op, .int .i64 a, .int .i64 b] W fun e w' => e = .returned (.tuple #[.int .i64 x, .bool true]) ∧ W = w'
  ba : ∀ W, Calls Tryd.prog 25 #[.int .i64 op, .int .i64 b, .int .i64 a] W fun e w' => e = .returned (.tuple #[.int .i64 x, .bool true]) ∧ W = w'
  xc : ∀ W, Calls Tryd.prog 25 #[.int .i64 op, .int .i64 x, .int .i64 c] W fun e w' => e = .returned (.tuple #[.int .i64 u, .bool true]) ∧ W = w'
  bc : ∀ W, Calls Tryd.prog 25 #[.int .i64 op, .int .i64 b, .int .i64 c] W fun e w' => e = .returned (.tuple #[.int .i64 v, .bool true]) ∧ W = w'
  av : ∀ W, Calls Tryd.prog 25 #[.int .i64 op, .int .i64 a, .int .i64 v] W fun e w' => e = .returned (.tuple #[.int .i64 u, .bool true]) ∧ W = w'
theorem resA (a b c : Int) : ∃ x u v, Res 1 a b c x u v :=
  ⟨wrap64 (a + b), wrap64 (wrap64 (a + b) + c), wrap64 (b + c), fun W => doA _ _ _ rfl W, fun W => doA _ _ _ (by rw [Int.add_comm]) W, fun W => doA _ _ _ rfl W, fun W => doA _ _ _ rfl W, fun W => doA _ _ _ (by unfold wrap64; omega) W⟩
theorem resM (a b c : Int) : ∃ x u v, Res 3 a b c x u v :=
  ⟨wrap64 (a * b), wrap64 (wrap64 (a * b) * c), wrap64 (b * c), fun W => doM _ _ _ rfl W, fun W => doM _ _ _ (by rw [Int.mul_comm]) W, fun W => doM _ _ _ rfl W, fun W => doM _ _ _ rfl W, fun W => doM _ _ _ (by rw [wrap_mul, wrap_mul2, Int.mul_assoc]) W⟩

/-- What stands behind the loop. -/
structure Rest (a b c : Int) (sum x y z less nb na : Int) : Prop where
  r1 : ∀ W, Calls Tryd.prog 25 #[.int .i64 1, .int .i64 b, .int .i64 c] W fun e w' => e = .returned (.tuple #[.int .i64 sum, .bool true]) ∧ W = w'
  r2 : ∀ W, Calls Tryd.prog 25 #[.int .i64 3, .int .i64 a, .int .i64 sum] W fun e w' => e = .returned (.tuple #[.int .i64 x, .bool true]) ∧ W = w'
  r3 : ∀ W, Calls Tryd.prog 25 #[.int .i64 3, .int .i64 a, .int .i64 b] W fun e w' => e = .returned (.tuple #[.int .i64 y, .bool true]) ∧ W = w'
  r4 : ∀ W, Calls Tryd.prog 25 #[.int .i64 3, .int .i64 a, .int .i64 c] W fun e w' => e = .returned (.tuple #[.int .i64 z, .bool true]) ∧ W = w'
  r5 : ∀ W, Calls Tryd.prog 25 #[.int .i64 1, .int .i64 y, .int .i64 z] W fun e w' => e = .returned (.tuple #[.int .i64 x, .bool true]) ∧ W = w'
  r6 : ∀ W, Calls Tryd.prog 25 #[.int .i64 2, .int .i64 a, .int .i64 b] W fun e w' => e = .returned (.tuple #[.int .i64 less, .bool true]) ∧ W = w'
  r7 : ∀ W, Calls Tryd.prog 23 #[.int .i64 b] W fun e w' => e = .returned (.int .i64 nb) ∧ W = w'
  r8 : ∀ W, Calls Tryd.prog 25 #[.int .i64 1, .int .i64 a, .int .i64 nb] W fun e w' => e = .returned (.tuple #[.int .i64 less, .bool true]) ∧ W = w'
  r9 : ∀ W, Calls Tryd.prog 25 #[.int .i64 2, .int .i64 a, .int .i64 a] W fun e w' => e = .returned (.tuple #[.int .i64 0, .bool true]) ∧ W = w'
  ra : ∀ W, Calls Tryd.prog 23 #[.int .i64 a] W fun e w' => e = .returned (.int .i64 na) ∧ W = w'
  rb : ∀ W, Calls Tryd.prog 23 #[.int .i64 na] W fun e w' => e = .returned (.int .i64 a) ∧ W = w'
theorem neg_neg (a : Int) (h : okI a) (W : World) : Calls Tryd.prog 23 #[.int .i64 (wrap64 (-a))] W fun e w' => e = .returned (.int .i64 a) ∧ W = w' := by
  have := negate_calls (wrap64 (-a)) W
  rw [show wrap64 (-(wrap64 (-a))) = a by unfold okI at h; unfold wrap64; omega] at this
  exact this
theorem rest (a b c : Int) (h : okI a) : ∃ sum x y z less nb na, Rest a b c sum x y z less nb na :=
  ⟨wrap64 (b + c), wrap64 (a * wrap64 (b + c)), wrap64 (a * b), wrap64 (a * c), wrap64 (a - b), wrap64 (-b), wrap64 (-a),
    fun W => doA _ _ _ rfl W, fun W => doM _ _ _ rfl W, fun W => doM _ _ _ rfl W, fun W => doM _ _ _ rfl W,
    fun W => doA _ _ _ (by
      rw [wrap_mul2, Int.mul_add]
      generalize a * b = p
      generalize a * c = q
      unfold wrap64; omega) W, fun W => doS _ _ _ rfl W, fun W => negate_calls _ W, fun W => doA _ _ _ (by unfold wrap64; omega) W, fun W => doS _ _ _ (by rw [Int.sub_self]; decide +kernel) W, fun W => negate_calls _ W, fun W => neg_neg a h W⟩

theorem cell0 (w : World) (T : TypeId) : (w.alloc (.cells #[.int .i64 1, .int .i64 3] T)).cell? ⟨w.heap.size, 0, none⟩ = some (.int .i64 1) := (Cell.new w #[.int .i64 1, .int .i64 3] T 0 _ rfl).1
theorem cell1 (w : World) (T : TypeId) : (w.alloc (.cells #[.int .i64 1, .int .i64 3] T)).cell? ⟨w.heap.size, 1, none⟩ = some (.int .i64 3) := (Cell.new w #[.int .i64 1, .int .i64 3] T 1 _ rfl).1

set_option maxRecDepth 100000 in
set_option maxHeartbeats 4000000 in
theorem law (a b c : Int) (h1 : -9223372036854775808 ≤ a) (h2 : a ≤ 9223372036854775807) (_h3 : -9223372036854775808 ≤ b) (_h4 : b ≤ 9223372036854775807) (_h5 : -9223372036854775808 ≤ c) (_h6 : c ≤ 9223372036854775807) (w : World) (hG : Glob w) :
    Calls Tryd.prog 7 #[.int .i64 a, .int .i64 b, .int .i64 c] w fun e w' => e = .returned (.bool true) ∧ Below w.heap.size w w' := by
  have HG := Lib.hid hG
  obtain ⟨x1, u1, v1, hA⟩ := resA a b c
  obtain ⟨x3, u3, v3, hM⟩ := resM a b c
  obtain ⟨sum, x, y, z, less, nb, na, hR⟩ := rest a b c ⟨h1, h2⟩
  have HA := Lib.hid hA
  have HM := Lib.hid hM
  have HR := Lib.hid hR
  clear hG hA hM hR h1 h2
  go_enter Tryd.func7, Tryd.ntmps7
  go_wp2_with fail
  have c0 := cell0 w 3
  have c1 := cell1 w 3
  have hb0 : Below w.heap.size w (w.alloc (.cells #[.int .i64 1, .int .i64 3] 3)) := (Below.refl _ w).alloc (Nat.le_refl _) _
  generalize w.alloc (.cells #[.int .i64 1, .int .i64 3] 3) = w0 at c0 c1 hb0 ⊢
  have B0 := Lib.hid hb0
  clear hb0
  go_loop [37] (fun i => ∃ k : Nat, k ≤ 2 ∧ i = .int .i64 k) (fun i => 2 - (intOf i).toNat)
  case atStart => exact ⟨0, by omega, rfl⟩
  case round =>
    obtain ⟨k, hk, rfl⟩ := hrel
    obtain rfl | rfl | rfl : k = 0 ∨ k = 1 ∨ k = 2 := by omega
    · clear HM HR c1 hk
      go_wp2_with fail
      refine (HA.out.ab _).mono ?_
      rintro e w' ⟨rfl, rfl⟩
      go_wp2_with fail
      refine (HA.out.ba _).mono ?_
      rintro e w' ⟨rfl, rfl⟩
      go_wp2_with fail
      refine (HA.out.xc _).mono ?_
      rintro e w' ⟨rfl, rfl⟩
      go_wp2_with fail
      refine (HA.out.bc _).mono ?_
      rintro e w' ⟨rfl, rfl⟩
      go_wp2_with fail
      refine (HA.out.av _).mono ?_
      rintro e w' ⟨rfl, rfl⟩
      go_wp2_with fail
      go_round
      case rel => exact ⟨1, by omega, by go_num⟩
      case measure => simp [intOf]
    · clear HA HR c0 hk
      go_wp2_with fail
      refine (HM.out.ab _).mono ?_
      rintro e w' ⟨rfl, rfl⟩
      go_wp2_with fail
      refine (HM.out.ba _).mono ?_
      rintro e w' ⟨rfl, rfl⟩
      go_wp2_with fail
      refine (HM.out.xc _).mono ?_
      rintro e w' ⟨rfl, rfl⟩
      go_wp2_with fail
      refine (HM.out.bc _).mono ?_
      rintro e w' ⟨rfl, rfl⟩
      go_wp2_with fail
      refine (HM.out.av _).mono ?_
      rintro e w' ⟨rfl, rfl⟩
      go_wp2_with fail
      go_round
      case rel => exact ⟨2, by omega, by go_num⟩
      case measure => simp [intOf]
    · clear HA HM c0 c1 hk
      go_wp2_with fail
      refine (HR.out.r1 _).mono ?_
      rintro e w' ⟨rfl, rfl⟩
      go_wp2_with fail
      refine (HR.out.r2 _).mono ?_
      rintro e w' ⟨rfl, rfl⟩
      go_wp2_with fail
      refine (HR.out.r3 _).mono ?_
      rintro e w' ⟨rfl, rfl⟩
      go_wp2_with fail
      refine (HR.out.r4 _).mono ?_
      rintro e w' ⟨rfl, rfl⟩
      go_wp2_with fail
      refine (HR.out.r5 _).mono ?_
      rintro e w' ⟨rfl, rfl⟩
      go_wp2_with fail
      refine (HR.out.r6 _).mono ?_
      rintro e w' ⟨rfl, rfl⟩
      go_wp2_with fail
      refine (HR.out.r7 _).mono ?_
      rintro e w' ⟨rfl, rfl⟩
      go_wp2_with fail
      refine (HR.out.r8 _).mono ?_
      rintro e w' ⟨rfl, rfl⟩
      go_wp2_with fail
      refine (HR.out.r9 _).mono ?_
      rintro e w' ⟨rfl, rfl⟩
      go_wp2_with fail
      refine (HR.out.ra _).mono ?_
      rintro e w' ⟨rfl, rfl⟩
      go_wp2_with fail
      refine (HR.out.rb _).mono ?_
      rintro e w' ⟨rfl, rfl⟩
      go_wp2_with fail
      refine (works_calls _ (HG.out.below B0.out)).mono ?_
      rintro e w2 ⟨rfl, hb⟩
      have B2 := Lib.hid (after B0.out hb)
      clear hb B0 HR
      go_wp2_with fail
      go_ret
      exact ⟨rfl, B2.out⟩
end Go.Proofs.YtfnobkcnopmfnaaDoor.laws
