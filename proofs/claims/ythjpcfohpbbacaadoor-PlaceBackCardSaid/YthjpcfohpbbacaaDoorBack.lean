/-
  rewindlaw01.PlaceBack returns true for every text and every two numbers. Conditions: the row's own (the library's tables and errors hold what their initialisers lay).
-/
import Derived.Test.YthjpcfohpbbacaaDoorFrame
import Derived.Test.YthjpcfohpbbacaaDoorMath
import Derived.Deep.QuietTactic
import Derived.IntWalk
namespace Go.Proofs.YthjpcfohpbbacaaDoor.back
open Go Go.ChangeShapes Go.WideShapes Go.ChangeAt Go.RowKit Go.Joins Go.Proofs.YthjpcfohpbbacaaDoor
open Go.ChangeMaps (open_string shut_string)
open Go.Sort (grow)

set_option maxRecDepth 100000 in
set_option maxHeartbeats 1000000 in
theorem walk_long (s : ByteArray) (a b : Int) (hs : 200 < s.size) (hm : s.size ≤ 9223372036854775807) (w : World) (hG : Glob w) :
    Calls Tryd.prog 5 #[.string s, .int .u16 a, .int .u16 b] w fun e w' => e = .returned (.bool true) ∧ Below w.heap.size w w' := by
  have HG := Lib.hid hG
  clear hG
  go_enter Tryd.func5, Tryd.ntmps5
  go_wp2_with fail
  refine (works_calls _ HG.out).mono ?_
  clear HG
  rintro e w' ⟨rfl, hb⟩
  go_wp2_with fail
  go_ret
  exact ⟨rfl, hb⟩

set_option maxRecDepth 100000 in
set_option maxHeartbeats 2000000 in
theorem walk_lt1 (s : ByteArray) (m n : Int) (hs : s.size ≤ 200) (hm0 : 0 ≤ m) (hm1 : m ≤ 65535) (hn0 : 0 ≤ n) (hn1 : n ≤ 65535) (a b c : Nat) (hA : m % ((s.size : Int) + 1) = a) (hB : n % ((s.size : Int) + 1) = b)
    (ha : a ≤ s.size) (_hb : b ≤ s.size) (hk : c ≤ a) (t : Bytes) (hat : c ≤ t.length) (ht : a + t.length ≤ s.size + c) (q : Nat) (hq : q ≤ 200) (L2 C2 : Int) (hlt : a < b) (h0 : c < a) (h10 : s[a - c - 1]'(by omega) = 10)
    (hO1 : ∀ W, Calls Tryd.prog 12 #[.string s, .int .i64 a] W fun e w' => e = .returned (.tuple #[.agg #[.int .i64 (1 + q), .int .i64 (c + 1)], .int .i64 0]) ∧ Below W.heap.size W w')
    (hO2 : ∀ W, Calls Tryd.prog 12 #[.string s, .int .i64 b] W fun e w' => e = .returned (.tuple #[.agg #[.int .i64 L2, .int .i64 C2], .int .i64 0]) ∧ Below W.heap.size W w')
    (hF : ∀ W, Calls Tryd.prog 14 #[.string s, .agg #[.int .i64 (1 + q), .int .i64 (c + 1)]] W fun e w' => e = .returned (.tuple #[.int .i64 a, .int .i64 0]) ∧ Below W.heap.size W w')
    (hL : ∀ W, Calls Tryd.prog 16 #[.string s, .int .i64 (1 + q)] W fun e w' => e = .returned (.tuple #[.string (B t), .int .i64 0]) ∧ Below W.heap.size W w')
    (hP : ∀ W, Calls Tryd.prog 26 #[.string (s.extract (a - c) s.size), .string (B t)] W fun e w' => e = .returned (.bool true) ∧ w' = W)
    (hC : ∀ W, Calls Tryd.prog 24 #[.agg #[.int .i64 (1 + q), .int .i64 (c + 1)], .agg #[.int .i64 L2, .int .i64 C2]] W fun e w' => e = .returned (.int .i64 (-1)) ∧ Below W.heap.size W w')
    (hN : ∀ W, Calls Tryd.prog 27 #[.string (s.extract 0 a), .string ⟨#[10]⟩] W fun e w' => e = .returned (.int .i64 q) ∧ w' = W)
    (w : World) (hG : Glob w) :
    Calls Tryd.prog 5 #[.string s, .int .u16 m, .int .u16 n] w fun e w' => e = .returned (.bool true) ∧ Below w.heap.size w w' := by
  have HG := Lib.hid hG
  have HO1 := Lib.hid hO1
  have HO2 := Lib.hid hO2
  have HF := Lib.hid hF
  have HL := Lib.hid hL
  have HP := Lib.hid hP
  have HC := Lib.hid hC
  have HN := Lib.hid hN
  have HA := Lib.hid hA
  have HB := Lib.hid hB
  clear hG hO1 hO2 hF hL hP hC hN hA hB
  have p0 : (0 : Int) ≤ (s.size : Int) + 1 := by omega
  have p1 : (1 : Int) ≤ (s.size : Int) + 1 := by omega
  go_enter Tryd.func5, Tryd.ntmps5
  go_wp2_with fail
  go_quiet (fail)
  rw [HA.out, HB.out]
  clear HA HB p0 p1
  go_wp2_with fail
  refine (HO1.out _).mono ?_
  clear HO1
  rintro e w1 ⟨rfl, hb1⟩
  have B1 := Lib.hid (after (below_drewN (Below.refl w.heap.size w) _) hb1)
  clear hb1
  have q0 := Lib.hid (Cell.new w1 #[.int .i64 (1 + q), .int .i64 ((c : Int) + 1)] 24 0 _ rfl)
  have q1 := Lib.hid (Cell.new w1 #[.int .i64 (1 + q), .int .i64 ((c : Int) + 1)] 24 1 _ rfl)
  have C1 := Lib.hid (B1.out.alloc B1.out.size (.cells #[.int .i64 (1 + q), .int .i64 ((c : Int) + 1)] 24))
  have z1 := Lib.hid (show w1.heap.size < (w1.alloc (.cells #[.int .i64 (1 + q), .int .i64 ((c : Int) + 1)] 24)).heap.size by simp)
  clear B1
  go_wp2_with fail
  refine (HO2.out _).mono ?_
  clear HO2
  generalize w1.alloc (.cells #[.int .i64 (1 + q), .int .i64 ((c : Int) + 1)] 24) = w2 at *
  rintro e w3 ⟨rfl, hb3⟩
  have B3 := Lib.hid (after C1.out hb3)
  have q0 := Lib.hid (q0.out.below hb3 z1.out)
  have q1 := Lib.hid (q1.out.below hb3 z1.out)
  have z3 := Lib.hid (Nat.lt_of_lt_of_le z1.out hb3.size)
  clear hb3 C1 z1
  have C3 := Lib.hid (B3.out.alloc B3.out.size (.cells #[.int .i64 L2, .int .i64 C2] 24))
  have q0 := Lib.hid (q0.out.alloc (.cells #[.int .i64 L2, .int .i64 C2] 24))
  have q1 := Lib.hid (q1.out.alloc (.cells #[.int .i64 L2, .int .i64 C2] 24))
  have r0 := Lib.hid (Cell.new w3 #[.int .i64 L2, .int .i64 C2] 24 0 _ rfl)
  have r1 := Lib.hid (Cell.new w3 #[.int .i64 L2, .int .i64 C2] 24 1 _ rfl)
  have zz := z3.out
  clear B3
  have k0 := q0.out.1
  have k1 := q1.out.1
  go_wp2_with fail
  clear k0 k1 zz
  refine (HF.out _).mono ?_
  clear HF
  generalize w3.alloc (.cells #[.int .i64 L2, .int .i64 C2] 24) = w4 at *
  rintro e w5 ⟨rfl, hb5⟩
  have B5 := Lib.hid (after C3.out hb5)
  have k0 := ((q0.out.below hb5 (World.block_lt_of_cell? _ _ q0.out.1))).1
  have k1 := ((q1.out.below hb5 (World.block_lt_of_cell? _ _ q1.out.1))).1
  have R0 := Lib.hid ((r0.out.below hb5 (World.block_lt_of_cell? _ _ r0.out.1))).1
  have R1 := Lib.hid ((r1.out.below hb5 (World.block_lt_of_cell? _ _ r1.out.1))).1
  clear hb5 C3 q0 q1 r0 r1 z3
  go_wp2_with fail
  refine (HL.out _).mono ?_
  clear HL
  rintro e w6 ⟨rfl, hb6⟩
  have B6 := Lib.hid (after B5.out hb6)
  have k0 := (hb6.cell (World.block_lt_of_cell? _ _ k0)).trans k0
  have k1 := (hb6.cell (World.block_lt_of_cell? _ _ k1)).trans k1
  have R0 := Lib.hid ((hb6.cell (World.block_lt_of_cell? _ _ R0.out)).trans R0.out)
  have R1 := Lib.hid ((hb6.cell (World.block_lt_of_cell? _ _ R1.out)).trans R1.out)
  clear hb6 B5
  go_wp2_with fail
  refine (HP.out _).mono ?_
  clear HP
  rintro e w7 ⟨rfl, rfl⟩
  go_wp2_with fail
  have hG6 := HG.out.below B6.out
  have r0 := R0.out
  have r1 := R1.out
  clear HG R0 R1
  have cC := fun d os => Calls.regrown_of (d := d) (os := os) (HC.out (grow (redrawn w7 d) os))
  have cW := fun d os => Calls.regrown_of (d := d) (os := os) (works_calls (grow (redrawn w7 d) os) (hG6.below (below_regrown _ d os)))
  have cN := fun d os => Calls.regrown_of (d := d) (os := os) (((HN.out (grow (redrawn w7 d) os)).mono fun _ _ ⟨h1, h2⟩ => ⟨h1, h2 ▸ Below.refl _ _⟩))
  clear hG6 HC HN
  have k0 := fun d os => cell_regrown k0 d os
  have k1 := fun d os => cell_regrown k1 d os
  have r0 := fun d os => cell_regrown r0 d os
  have r1 := fun d os => cell_regrown r1 d os
  have hwr : IntKind.i64.wrap (1 + (q : Int)) = 1 + q := IntWalk.i64_in _ (by omega)
  refine wp_region_quiet_below (by kernel_rfl) (by kernel_rfl) ?_
  repeat (quiet_step (first | with_reducible exact cC _ _ | with_reducible exact cN _ _ | with_reducible exact cW _ _))
  refine wpQuiet_nil ?_
  intro _ hw'
  obtain ⟨⟨dq, osq⟩, hw''⟩ := hw'
  subst hw''
  go_wp2_with fail
  go_ret
  exact ⟨rfl, B6.out.trans ((below_regrown w7 dq osq).mono B6.out.size)⟩

set_option maxRecDepth 100000 in
set_option maxHeartbeats 2000000 in
theorem walk_lt0 (s : ByteArray) (m n : Int) (hs : s.size ≤ 200) (hm0 : 0 ≤ m) (hm1 : m ≤ 65535) (hn0 : 0 ≤ n) (hn1 : n ≤ 65535) (a b c : Nat) (hA : m % ((s.size : Int) + 1) = a) (hB : n % ((s.size : Int) + 1) = b)
    (ha : a ≤ s.size) (_hb : b ≤ s.size) (hk : c ≤ a) (t : Bytes) (hat : c ≤ t.length) (ht : a + t.length ≤ s.size + c) (q : Nat) (hq : q ≤ 200) (L2 C2 : Int) (hlt : a < b) (h0 : c = a)
    (hO1 : ∀ W, Calls Tryd.prog 12 #[.string s, .int .i64 a] W fun e w' => e = .returned (.tuple #[.agg #[.int .i64 (1 + q), .int .i64 (c + 1)], .int .i64 0]) ∧ Below W.heap.size W w')
    (hO2 : ∀ W, Calls Tryd.prog 12 #[.string s, .int .i64 b] W fun e w' => e = .returned (.tuple #[.agg #[.int .i64 L2, .int .i64 C2], .int .i64 0]) ∧ Below W.heap.size W w')
    (hF : ∀ W, Calls Tryd.prog 14 #[.string s, .agg #[.int .i64 (1 + q), .int .i64 (c + 1)]] W fun e w' => e = .returned (.tuple #[.int .i64 a, .int .i64 0]) ∧ Below W.heap.size W w')
    (hL : ∀ W, Calls Tryd.prog 16 #[.string s, .int .i64 (1 + q)] W fun e w' => e = .returned (.tuple #[.string (B t), .int .i64 0]) ∧ Below W.heap.size W w')
    (hP : ∀ W, Calls Tryd.prog 26 #[.string (s), .string (B t)] W fun e w' => e = .returned (.bool true) ∧ w' = W)
    (hC : ∀ W, Calls Tryd.prog 24 #[.agg #[.int .i64 (1 + q), .int .i64 (c + 1)], .agg #[.int .i64 L2, .int .i64 C2]] W fun e w' => e = .returned (.int .i64 (-1)) ∧ Below W.heap.size W w')
    (hN : ∀ W, Calls Tryd.prog 27 #[.string (s.extract 0 a), .string ⟨#[10]⟩] W fun e w' => e = .returned (.int .i64 q) ∧ w' = W)
    (w : World) (hG : Glob w) :
    Calls Tryd.prog 5 #[.string s, .int .u16 m, .int .u16 n] w fun e w' => e = .returned (.bool true) ∧ Below w.heap.size w w' := by
  subst h0
  have HG := Lib.hid hG
  have HO1 := Lib.hid hO1
  have HO2 := Lib.hid hO2
  have HF := Lib.hid hF
  have HL := Lib.hid hL
  have HP := Lib.hid hP
  have HC := Lib.hid hC
  have HN := Lib.hid hN
  have HA := Lib.hid hA
  have HB := Lib.hid hB
  clear hG hO1 hO2 hF hL hP hC hN hA hB
  have p0 : (0 : Int) ≤ (s.size : Int) + 1 := by omega
  have p1 : (1 : Int) ≤ (s.size : Int) + 1 := by omega
  go_enter Tryd.func5, Tryd.ntmps5
  go_wp2_with fail
  go_quiet (fail)
  rw [HA.out, HB.out]
  clear HA HB p0 p1
  go_wp2_with fail
  refine (HO1.out _).mono ?_
  clear HO1
  rintro e w1 ⟨rfl, hb1⟩
  have B1 := Lib.hid (after (below_drewN (Below.refl w.heap.size w) _) hb1)
  clear hb1
  have q0 := Lib.hid (Cell.new w1 #[.int .i64 (1 + q), .int .i64 ((c : Int) + 1)] 24 0 _ rfl)
  have q1 := Lib.hid (Cell.new w1 #[.int .i64 (1 + q), .int .i64 ((c : Int) + 1)] 24 1 _ rfl)
  have C1 := Lib.hid (B1.out.alloc B1.out.size (.cells #[.int .i64 (1 + q), .int .i64 ((c : Int) + 1)] 24))
  have z1 := Lib.hid (show w1.heap.size < (w1.alloc (.cells #[.int .i64 (1 + q), .int .i64 ((c : Int) + 1)] 24)).heap.size by simp)
  clear B1
  go_wp2_with fail
  refine (HO2.out _).mono ?_
  clear HO2
  generalize w1.alloc (.cells #[.int .i64 (1 + q), .int .i64 ((c : Int) + 1)] 24) = w2 at *
  rintro e w3 ⟨rfl, hb3⟩
  have B3 := Lib.hid (after C1.out hb3)
  have q0 := Lib.hid (q0.out.below hb3 z1.out)
  have q1 := Lib.hid (q1.out.below hb3 z1.out)
  have z3 := Lib.hid (Nat.lt_of_lt_of_le z1.out hb3.size)
  clear hb3 C1 z1
  have C3 := Lib.hid (B3.out.alloc B3.out.size (.cells #[.int .i64 L2, .int .i64 C2] 24))
  have q0 := Lib.hid (q0.out.alloc (.cells #[.int .i64 L2, .int .i64 C2] 24))
  have q1 := Lib.hid (q1.out.alloc (.cells #[.int .i64 L2, .int .i64 C2] 24))
  have r0 := Lib.hid (Cell.new w3 #[.int .i64 L2, .int .i64 C2] 24 0 _ rfl)
  have r1 := Lib.hid (Cell.new w3 #[.int .i64 L2, .int .i64 C2] 24 1 _ rfl)
  have zz := z3.out
  clear B3
  have k0 := q0.out.1
  have k1 := q1.out.1
  go_wp2_with fail
  clear k0 k1 zz
  refine (HF.out _).mono ?_
  clear HF
  generalize w3.alloc (.cells #[.int .i64 L2, .int .i64 C2] 24) = w4 at *
  rintro e w5 ⟨rfl, hb5⟩
  have B5 := Lib.hid (after C3.out hb5)
  have k0 := ((q0.out.below hb5 (World.block_lt_of_cell? _ _ q0.out.1))).1
  have k1 := ((q1.out.below hb5 (World.block_lt_of_cell? _ _ q1.out.1))).1
  have R0 := Lib.hid ((r0.out.below hb5 (World.block_lt_of_cell? _ _ r0.out.1))).1
  have R1 := Lib.hid ((r1.out.below hb5 (World.block_lt_of_cell? _ _ r1.out.1))).1
  clear hb5 C3 q0 q1 r0 r1 z3
  go_wp2_with fail
  refine (HL.out _).mono ?_
  clear HL
  rintro e w6 ⟨rfl, hb6⟩
  have B6 := Lib.hid (after B5.out hb6)
  have k0 := (hb6.cell (World.block_lt_of_cell? _ _ k0)).trans k0
  have k1 := (hb6.cell (World.block_lt_of_cell? _ _ k1)).trans k1
  have R0 := Lib.hid ((hb6.cell (World.block_lt_of_cell? _ _ R0.out)).trans R0.out)
  have R1 := Lib.hid ((hb6.cell (World.block_lt_of_cell? _ _ R1.out)).trans R1.out)
  clear hb6 B5
  go_wp2_with fail
  refine (HP.out _).mono ?_
  clear HP
  rintro e w7 ⟨rfl, rfl⟩
  go_wp2_with fail
  have hG6 := HG.out.below B6.out
  have r0 := R0.out
  have r1 := R1.out
  clear HG R0 R1
  have cC := fun d os => Calls.regrown_of (d := d) (os := os) (HC.out (grow (redrawn w7 d) os))
  have cW := fun d os => Calls.regrown_of (d := d) (os := os) (works_calls (grow (redrawn w7 d) os) (hG6.below (below_regrown _ d os)))
  have cN := fun d os => Calls.regrown_of (d := d) (os := os) (((HN.out (grow (redrawn w7 d) os)).mono fun _ _ ⟨h1, h2⟩ => ⟨h1, h2 ▸ Below.refl _ _⟩))
  clear hG6 HC HN
  have k0 := fun d os => cell_regrown k0 d os
  have k1 := fun d os => cell_regrown k1 d os
  have r0 := fun d os => cell_regrown r0 d os
  have r1 := fun d os => cell_regrown r1 d os
  have hwr : IntKind.i64.wrap (1 + (q : Int)) = 1 + q := IntWalk.i64_in _ (by omega)
  refine wp_region_quiet_below (by kernel_rfl) (by kernel_rfl) ?_
  repeat (quiet_step (first | with_reducible exact cC _ _ | with_reducible exact cN _ _ | with_reducible exact cW _ _))
  refine wpQuiet_nil ?_
  intro _ hw'
  obtain ⟨⟨dq, osq⟩, hw''⟩ := hw'
  subst hw''
  go_wp2_with fail
  go_ret
  exact ⟨rfl, B6.out.trans ((below_regrown w7 dq osq).mono B6.out.size)⟩

set_option maxRecDepth 100000 in
set_option maxHeartbeats 2000000 in
theorem walk_gt1 (s : ByteArray) (m n : Int) (hs : s.size ≤ 200) (hm0 : 0 ≤ m) (hm1 : m ≤ 65535) (hn0 : 0 ≤ n) (hn1 : n ≤ 65535) (a b c : Nat) (hA : m % ((s.size : Int) + 1) = a) (hB : n % ((s.size : Int) + 1) = b)
    (ha : a ≤ s.size) (_hb : b ≤ s.size) (hk : c ≤ a) (t : Bytes) (hat : c ≤ t.length) (ht : a + t.length ≤ s.size + c) (q : Nat) (hq : q ≤ 200) (L2 C2 : Int) (hgt : b < a) (h0 : c < a) (h10 : s[a - c - 1]'(by omega) = 10)
    (hO1 : ∀ W, Calls Tryd.prog 12 #[.string s, .int .i64 a] W fun e w' => e = .returned (.tuple #[.agg #[.int .i64 (1 + q), .int .i64 (c + 1)], .int .i64 0]) ∧ Below W.heap.size W w')
    (hO2 : ∀ W, Calls Tryd.prog 12 #[.string s, .int .i64 b] W fun e w' => e = .returned (.tuple #[.agg #[.int .i64 L2, .int .i64 C2], .int .i64 0]) ∧ Below W.heap.size W w')
    (hF : ∀ W, Calls Tryd.prog 14 #[.string s, .agg #[.int .i64 (1 + q), .int .i64 (c + 1)]] W fun e w' => e = .returned (.tuple #[.int .i64 a, .int .i64 0]) ∧ Below W.heap.size W w')
    (hL : ∀ W, Calls Tryd.prog 16 #[.string s, .int .i64 (1 + q)] W fun e w' => e = .returned (.tuple #[.string (B t), .int .i64 0]) ∧ Below W.heap.size W w')
    (hP : ∀ W, Calls Tryd.prog 26 #[.string (s.extract (a - c) s.size), .string (B t)] W fun e w' => e = .returned (.bool true) ∧ w' = W)
    (hC : ∀ W, Calls Tryd.prog 24 #[.agg #[.int .i64 (1 + q), .int .i64 (c + 1)], .agg #[.int .i64 L2, .int .i64 C2]] W fun e w' => e = .returned (.int .i64 (1)) ∧ Below W.heap.size W w')
    (hN : ∀ W, Calls Tryd.prog 27 #[.string (s.extract 0 a), .string ⟨#[10]⟩] W fun e w' => e = .returned (.int .i64 q) ∧ w' = W)
    (w : World) (hG : Glob w) :
    Calls Tryd.prog 5 #[.string s, .int .u16 m, .int .u16 n] w fun e w' => e = .returned (.bool true) ∧ Below w.heap.size w w' := by
  have HG := Lib.hid hG
  have HO1 := Lib.hid hO1
  have HO2 := Lib.hid hO2
  have HF := Lib.hid hF
  have HL := Lib.hid hL
  have HP := Lib.hid hP
  have HC := Lib.hid hC
  have HN := Lib.hid hN
  have HA := Lib.hid hA
  have HB := Lib.hid hB
  clear hG hO1 hO2 hF hL hP hC hN hA hB
  have p0 : (0 : Int) ≤ (s.size : Int) + 1 := by omega
  have p1 : (1 : Int) ≤ (s.size : Int) + 1 := by omega
  go_enter Tryd.func5, Tryd.ntmps5
  go_wp2_with fail
  go_quiet (fail)
  rw [HA.out, HB.out]
  clear HA HB p0 p1
  go_wp2_with fail
  refine (HO1.out _).mono ?_
  clear HO1
  rintro e w1 ⟨rfl, hb1⟩
  have B1 := Lib.hid (after (below_drewN (Below.refl w.heap.size w) _) hb1)
  clear hb1
  have q0 := Lib.hid (Cell.new w1 #[.int .i64 (1 + q), .int .i64 ((c : Int) + 1)] 24 0 _ rfl)
  have q1 := Lib.hid (Cell.new w1 #[.int .i64 (1 + q), .int .i64 ((c : Int) + 1)] 24 1 _ rfl)
  have C1 := Lib.hid (B1.out.alloc B1.out.size (.cells #[.int .i64 (1 + q), .int .i64 ((c : Int) + 1)] 24))
  have z1 := Lib.hid (show w1.heap.size < (w1.alloc (.cells #[.int .i64 (1 + q), .int .i64 ((c : Int) + 1)] 24)).heap.size by simp)
  clear B1
  go_wp2_with fail
  refine (HO2.out _).mono ?_
  clear HO2
  generalize w1.alloc (.cells #[.int .i64 (1 + q), .int .i64 ((c : Int) + 1)] 24) = w2 at *
  rintro e w3 ⟨rfl, hb3⟩
  have B3 := Lib.hid (after C1.out hb3)
  have q0 := Lib.hid (q0.out.below hb3 z1.out)
  have q1 := Lib.hid (q1.out.below hb3 z1.out)
  have z3 := Lib.hid (Nat.lt_of_lt_of_le z1.out hb3.size)
  clear hb3 C1 z1
  have C3 := Lib.hid (B3.out.alloc B3.out.size (.cells #[.int .i64 L2, .int .i64 C2] 24))
  have q0 := Lib.hid (q0.out.alloc (.cells #[.int .i64 L2, .int .i64 C2] 24))
  have q1 := Lib.hid (q1.out.alloc (.cells #[.int .i64 L2, .int .i64 C2] 24))
  have r0 := Lib.hid (Cell.new w3 #[.int .i64 L2, .int .i64 C2] 24 0 _ rfl)
  have r1 := Lib.hid (Cell.new w3 #[.int .i64 L2, .int .i64 C2] 24 1 _ rfl)
  have zz := z3.out
  clear B3
  have k0 := q0.out.1
  have k1 := q1.out.1
  go_wp2_with fail
  clear k0 k1 zz
  refine (HF.out _).mono ?_
  clear HF
  generalize w3.alloc (.cells #[.int .i64 L2, .int .i64 C2] 24) = w4 at *
  rintro e w5 ⟨rfl, hb5⟩
  have B5 := Lib.hid (after C3.out hb5)
  have k0 := ((q0.out.below hb5 (World.block_lt_of_cell? _ _ q0.out.1))).1
  have k1 := ((q1.out.below hb5 (World.block_lt_of_cell? _ _ q1.out.1))).1
  have R0 := Lib.hid ((r0.out.below hb5 (World.block_lt_of_cell? _ _ r0.out.1))).1
  have R1 := Lib.hid ((r1.out.below hb5 (World.block_lt_of_cell? _ _ r1.out.1))).1
  clear hb5 C3 q0 q1 r0 r1 z3
  go_wp2_with fail
  refine (HL.out _).mono ?_
  clear HL
  rintro e w6 ⟨rfl, hb6⟩
  have B6 := Lib.hid (after B5.out hb6)
  have k0 := (hb6.cell (World.block_lt_of_cell? _ _ k0)).trans k0
  have k1 := (hb6.cell (World.block_lt_of_cell? _ _ k1)).trans k1
  have R0 := Lib.hid ((hb6.cell (World.block_lt_of_cell? _ _ R0.out)).trans R0.out)
  have R1 := Lib.hid ((hb6.cell (World.block_lt_of_cell? _ _ R1.out)).trans R1.out)
  clear hb6 B5
  go_wp2_with fail
  refine (HP.out _).mono ?_
  clear HP
  rintro e w7 ⟨rfl, rfl⟩
  go_wp2_with fail
  have hG6 := HG.out.below B6.out
  have r0 := R0.out
  have r1 := R1.out
  clear HG R0 R1
  have cC := fun d os => Calls.regrown_of (d := d) (os := os) (HC.out (grow (redrawn w7 d) os))
  have cW := fun d os => Calls.regrown_of (d := d) (os := os) (works_calls (grow (redrawn w7 d) os) (hG6.below (below_regrown _ d os)))
  have cN := fun d os => Calls.regrown_of (d := d) (os := os) (((HN.out (grow (redrawn w7 d) os)).mono fun _ _ ⟨h1, h2⟩ => ⟨h1, h2 ▸ Below.refl _ _⟩))
  clear hG6 HC HN
  have k0 := fun d os => cell_regrown k0 d os
  have k1 := fun d os => cell_regrown k1 d os
  have r0 := fun d os => cell_regrown r0 d os
  have r1 := fun d os => cell_regrown r1 d os
  have hwr : IntKind.i64.wrap (1 + (q : Int)) = 1 + q := IntWalk.i64_in _ (by omega)
  refine wp_region_quiet_below (by kernel_rfl) (by kernel_rfl) ?_
  repeat (quiet_step (first | with_reducible exact cC _ _ | with_reducible exact cN _ _ | with_reducible exact cW _ _))
  refine wpQuiet_nil ?_
  intro _ hw'
  obtain ⟨⟨dq, osq⟩, hw''⟩ := hw'
  subst hw''
  go_wp2_with fail
  go_ret
  exact ⟨rfl, B6.out.trans ((below_regrown w7 dq osq).mono B6.out.size)⟩

set_option maxRecDepth 100000 in
set_option maxHeartbeats 2000000 in
theorem walk_gt0 (s : ByteArray) (m n : Int) (hs : s.size ≤ 200) (hm0 : 0 ≤ m) (hm1 : m ≤ 65535) (hn0 : 0 ≤ n) (hn1 : n ≤ 65535) (a b c : Nat) (hA : m % ((s.size : Int) + 1) = a) (hB : n % ((s.size : Int) + 1) = b)
    (ha : a ≤ s.size) (_hb : b ≤ s.size) (hk : c ≤ a) (t : Bytes) (hat : c ≤ t.length) (ht : a + t.length ≤ s.size + c) (q : Nat) (hq : q ≤ 200) (L2 C2 : Int) (hgt : b < a) (h0 : c = a)
    (hO1 : ∀ W, Calls Tryd.prog 12 #[.string s, .int .i64 a] W fun e w' => e = .returned (.tuple #[.agg #[.int .i64 (1 + q), .int .i64 (c + 1)], .int .i64 0]) ∧ Below W.heap.size W w')
    (hO2 : ∀ W, Calls Tryd.prog 12 #[.string s, .int .i64 b] W fun e w' => e = .returned (.tuple #[.agg #[.int .i64 L2, .int .i64 C2], .int .i64 0]) ∧ Below W.heap.size W w')
    (hF : ∀ W, Calls Tryd.prog 14 #[.string s, .agg #[.int .i64 (1 + q), .int .i64 (c + 1)]] W fun e w' => e = .returned (.tuple #[.int .i64 a, .int .i64 0]) ∧ Below W.heap.size W w')
    (hL : ∀ W, Calls Tryd.prog 16 #[.string s, .int .i64 (1 + q)] W fun e w' => e = .returned (.tuple #[.string (B t), .int .i64 0]) ∧ Below W.heap.size W w')
    (hP : ∀ W, Calls Tryd.prog 26 #[.string (s), .string (B t)] W fun e w' => e = .returned (.bool true) ∧ w' = W)
    (hC : ∀ W, Calls Tryd.prog 24 #[.agg #[.int .i64 (1 + q), .int .i64 (c + 1)], .agg #[.int .i64 L2, .int .i64 C2]] W fun e w' => e = .returned (.int .i64 (1)) ∧ Below W.heap.size W w')
    (hN : ∀ W, Calls Tryd.prog 27 #[.string (s.extract 0 a), .string ⟨#[10]⟩] W fun e w' => e = .returned (.int .i64 q) ∧ w' = W)
    (w : World) (hG : Glob w) :
    Calls Tryd.prog 5 #[.string s, .int .u16 m, .int .u16 n] w fun e w' => e = .returned (.bool true) ∧ Below w.heap.size w w' := by
  subst h0
  have HG := Lib.hid hG
  have HO1 := Lib.hid hO1
  have HO2 := Lib.hid hO2
  have HF := Lib.hid hF
  have HL := Lib.hid hL
  have HP := Lib.hid hP
  have HC := Lib.hid hC
  have HN := Lib.hid hN
  have HA := Lib.hid hA
  have HB := Lib.hid hB
  clear hG hO1 hO2 hF hL hP hC hN hA hB
  have p0 : (0 : Int) ≤ (s.size : Int) + 1 := by omega
  have p1 : (1 : Int) ≤ (s.size : Int) + 1 := by omega
  go_enter Tryd.func5, Tryd.ntmps5
  go_wp2_with fail
  go_quiet (fail)
  rw [HA.out, HB.out]
  clear HA HB p0 p1
  go_wp2_with fail
  refine (HO1.out _).mono ?_
  clear HO1
  rintro e w1 ⟨rfl, hb1⟩
  have B1 := Lib.hid (after (below_drewN (Below.refl w.heap.size w) _) hb1)
  clear hb1
  have q0 := Lib.hid (Cell.new w1 #[.int .i64 (1 + q), .int .i64 ((c : Int) + 1)] 24 0 _ rfl)
  have q1 := Lib.hid (Cell.new w1 #[.int .i64 (1 + q), .int .i64 ((c : Int) + 1)] 24 1 _ rfl)
  have C1 := Lib.hid (B1.out.alloc B1.out.size (.cells #[.int .i64 (1 + q), .int .i64 ((c : Int) + 1)] 24))
  have z1 := Lib.hid (show w1.heap.size < (w1.alloc (.cells #[.int .i64 (1 + q), .int .i64 ((c : Int) + 1)] 24)).heap.size by simp)
  clear B1
  go_wp2_with fail
  refine (HO2.out _).mono ?_
  clear HO2
  generalize w1.alloc (.cells #[.int .i64 (1 + q), .int .i64 ((c : Int) + 1)] 24) = w2 at *
  rintro e w3 ⟨rfl, hb3⟩
  have B3 := Lib.hid (after C1.out hb3)
  have q0 := Lib.hid (q0.out.below hb3 z1.out)
  have q1 := Lib.hid (q1.out.below hb3 z1.out)
  have z3 := Lib.hid (Nat.lt_of_lt_of_le z1.out hb3.size)
  clear hb3 C1 z1
  have C3 := Lib.hid (B3.out.alloc B3.out.size (.cells #[.int .i64 L2, .int .i64 C2] 24))
  have q0 := Lib.hid (q0.out.alloc (.cells #[.int .i64 L2, .int .i64 C2] 24))
  have q1 := Lib.hid (q1.out.alloc (.cells #[.int .i64 L2, .int .i64 C2] 24))
  have r0 := Lib.hid (Cell.new w3 #[.int .i64 L2, .int .i64 C2] 24 0 _ rfl)
  have r1 := Lib.hid (Cell.new w3 #[.int .i64 L2, .int .i64 C2] 24 1 _ rfl)
  have zz := z3.out
  clear B3
  have k0 := q0.out.1
  have k1 := q1.out.1
  go_wp2_with fail
  clear k0 k1 zz
  refine (HF.out _).mono ?_
  clear HF
  generalize w3.alloc (.cells #[.int .i64 L2, .int .i64 C2] 24) = w4 at *
  rintro e w5 ⟨rfl, hb5⟩
  have B5 := Lib.hid (after C3.out hb5)
  have k0 := ((q0.out.below hb5 (World.block_lt_of_cell? _ _ q0.out.1))).1
  have k1 := ((q1.out.below hb5 (World.block_lt_of_cell? _ _ q1.out.1))).1
  have R0 := Lib.hid ((r0.out.below hb5 (World.block_lt_of_cell? _ _ r0.out.1))).1
  have R1 := Lib.hid ((r1.out.below hb5 (World.block_lt_of_cell? _ _ r1.out.1))).1
  clear hb5 C3 q0 q1 r0 r1 z3
  go_wp2_with fail
  refine (HL.out _).mono ?_
  clear HL
  rintro e w6 ⟨rfl, hb6⟩
  have B6 := Lib.hid (after B5.out hb6)
  have k0 := (hb6.cell (World.block_lt_of_cell? _ _ k0)).trans k0
  have k1 := (hb6.cell (World.block_lt_of_cell? _ _ k1)).trans k1
  have R0 := Lib.hid ((hb6.cell (World.block_lt_of_cell? _ _ R0.out)).trans R0.out)
  have R1 := Lib.hid ((hb6.cell (World.block_lt_of_cell? _ _ R1.out)).trans R1.out)
  clear hb6 B5
  go_wp2_with fail
  refine (HP.out _).mono ?_
  clear HP
  rintro e w7 ⟨rfl, rfl⟩
  go_wp2_with fail
  have hG6 := HG.out.below B6.out
  have r0 := R0.out
  have r1 := R1.out
  clear HG R0 R1
  have cC := fun d os => Calls.regrown_of (d := d) (os := os) (HC.out (grow (redrawn w7 d) os))
  have cW := fun d os => Calls.regrown_of (d := d) (os := os) (works_calls (grow (redrawn w7 d) os) (hG6.below (below_regrown _ d os)))
  have cN := fun d os => Calls.regrown_of (d := d) (os := os) (((HN.out (grow (redrawn w7 d) os)).mono fun _ _ ⟨h1, h2⟩ => ⟨h1, h2 ▸ Below.refl _ _⟩))
  clear hG6 HC HN
  have k0 := fun d os => cell_regrown k0 d os
  have k1 := fun d os => cell_regrown k1 d os
  have r0 := fun d os => cell_regrown r0 d os
  have r1 := fun d os => cell_regrown r1 d os
  have hwr : IntKind.i64.wrap (1 + (q : Int)) = 1 + q := IntWalk.i64_in _ (by omega)
  refine wp_region_quiet_below (by kernel_rfl) (by kernel_rfl) ?_
  repeat (quiet_step (first | with_reducible exact cC _ _ | with_reducible exact cN _ _ | with_reducible exact cW _ _))
  refine wpQuiet_nil ?_
  intro _ hw'
  obtain ⟨⟨dq, osq⟩, hw''⟩ := hw'
  subst hw''
  go_wp2_with fail
  go_ret
  exact ⟨rfl, B6.out.trans ((below_regrown w7 dq osq).mono B6.out.size)⟩

set_option maxRecDepth 100000 in
set_option maxHeartbeats 2000000 in
theorem walk_eq1 (s : ByteArray) (m n : Int) (hs : s.size ≤ 200) (hm0 : 0 ≤ m) (hm1 : m ≤ 65535) (hn0 : 0 ≤ n) (hn1 : n ≤ 65535) (a b c : Nat) (hA : m % ((s.size : Int) + 1) = a) (hB : n % ((s.size : Int) + 1) = b)
    (ha : a ≤ s.size) (_hb : b ≤ s.size) (hk : c ≤ a) (t : Bytes) (hat : c ≤ t.length) (ht : a + t.length ≤ s.size + c) (q : Nat) (hq : q ≤ 200) (L2 C2 : Int) (heq : a = b) (h0 : c < a) (h10 : s[a - c - 1]'(by omega) = 10)
    (hO1 : ∀ W, Calls Tryd.prog 12 #[.string s, .int .i64 a] W fun e w' => e = .returned (.tuple #[.agg #[.int .i64 (1 + q), .int .i64 (c + 1)], .int .i64 0]) ∧ Below W.heap.size W w')
    (hO2 : ∀ W, Calls Tryd.prog 12 #[.string s, .int .i64 b] W fun e w' => e = .returned (.tuple #[.agg #[.int .i64 L2, .int .i64 C2], .int .i64 0]) ∧ Below W.heap.size W w')
    (hF : ∀ W, Calls Tryd.prog 14 #[.string s, .agg #[.int .i64 (1 + q), .int .i64 (c + 1)]] W fun e w' => e = .returned (.tuple #[.int .i64 a, .int .i64 0]) ∧ Below W.heap.size W w')
    (hL : ∀ W, Calls Tryd.prog 16 #[.string s, .int .i64 (1 + q)] W fun e w' => e = .returned (.tuple #[.string (B t), .int .i64 0]) ∧ Below W.heap.size W w')
    (hP : ∀ W, Calls Tryd.prog 26 #[.string (s.extract (a - c) s.size), .string (B t)] W fun e w' => e = .returned (.bool true) ∧ w' = W)
    (hC : ∀ W, Calls Tryd.prog 24 #[.agg #[.int .i64 (1 + q), .int .i64 (c + 1)], .agg #[.int .i64 L2, .int .i64 C2]] W fun e w' => e = .returned (.int .i64 (0)) ∧ Below W.heap.size W w')
    (hN : ∀ W, Calls Tryd.prog 27 #[.string (s.extract 0 a), .string ⟨#[10]⟩] W fun e w' => e = .returned (.int .i64 q) ∧ w' = W)
    (w : World) (hG : Glob w) :
    Calls Tryd.prog 5 #[.string s, .int .u16 m, .int .u16 n] w fun e w' => e = .returned (.bool true) ∧ Below w.heap.size w w' := by
  subst heq
  have HG := Lib.hid hG
  have HO1 := Lib.hid hO1
  have HO2 := Lib.hid hO2
  have HF := Lib.hid hF
  have HL := Lib.hid hL
  have HP := Lib.hid hP
  have HC := Lib.hid hC
  have HN := Lib.hid hN
  have HA := Lib.hid hA
  have HB := Lib.hid hB
  clear hG hO1 hO2 hF hL hP hC hN hA hB
  have p0 : (0 : Int) ≤ (s.size : Int) + 1 := by omega
  have p1 : (1 : Int) ≤ (s.size : Int) + 1 := by omega
  go_enter Tryd.func5, Tryd.ntmps5
  go_wp2_with fail
  go_quiet (fail)
  rw [HA.out, HB.out]
  clear HA HB p0 p1
  go_wp2_with fail
  refine (HO1.out _).mono ?_
  clear HO1
  rintro e w1 ⟨rfl, hb1⟩
  have B1 := Lib.hid (after (below_drewN (Below.refl w.heap.size w) _) hb1)
  clear hb1
  have q0 := Lib.hid (Cell.new w1 #[.int .i64 (1 + q), .int .i64 ((c : Int) + 1)] 24 0 _ rfl)
  have q1 := Lib.hid (Cell.new w1 #[.int .i64 (1 + q), .int .i64 ((c : Int) + 1)] 24 1 _ rfl)
  have C1 := Lib.hid (B1.out.alloc B1.out.size (.cells #[.int .i64 (1 + q), .int .i64 ((c : Int) + 1)] 24))
  have z1 := Lib.hid (show w1.heap.size < (w1.alloc (.cells #[.int .i64 (1 + q), .int .i64 ((c : Int) + 1)] 24)).heap.size by simp)
  clear B1
  go_wp2_with fail
  refine (HO2.out _).mono ?_
  clear HO2
  generalize w1.alloc (.cells #[.int .i64 (1 + q), .int .i64 ((c : Int) + 1)] 24) = w2 at *
  rintro e w3 ⟨rfl, hb3⟩
  have B3 := Lib.hid (after C1.out hb3)
  have q0 := Lib.hid (q0.out.below hb3 z1.out)
  have q1 := Lib.hid (q1.out.below hb3 z1.out)
  have z3 := Lib.hid (Nat.lt_of_lt_of_le z1.out hb3.size)
  clear hb3 C1 z1
  have C3 := Lib.hid (B3.out.alloc B3.out.size (.cells #[.int .i64 L2, .int .i64 C2] 24))
  have q0 := Lib.hid (q0.out.alloc (.cells #[.int .i64 L2, .int .i64 C2] 24))
  have q1 := Lib.hid (q1.out.alloc (.cells #[.int .i64 L2, .int .i64 C2] 24))
  have r0 := Lib.hid (Cell.new w3 #[.int .i64 L2, .int .i64 C2] 24 0 _ rfl)
  have r1 := Lib.hid (Cell.new w3 #[.int .i64 L2, .int .i64 C2] 24 1 _ rfl)
  have zz := z3.out
  clear B3
  have k0 := q0.out.1
  have k1 := q1.out.1
  go_wp2_with fail
  clear k0 k1 zz
  refine (HF.out _).mono ?_
  clear HF
  generalize w3.alloc (.cells #[.int .i64 L2, .int .i64 C2] 24) = w4 at *
  rintro e w5 ⟨rfl, hb5⟩
  have B5 := Lib.hid (after C3.out hb5)
  have k0 := ((q0.out.below hb5 (World.block_lt_of_cell? _ _ q0.out.1))).1
  have k1 := ((q1.out.below hb5 (World.block_lt_of_cell? _ _ q1.out.1))).1
  have R0 := Lib.hid ((r0.out.below hb5 (World.block_lt_of_cell? _ _ r0.out.1))).1
  have R1 := Lib.hid ((r1.out.below hb5 (World.block_lt_of_cell? _ _ r1.out.1))).1
  clear hb5 C3 q0 q1 r0 r1 z3
  go_wp2_with fail
  refine (HL.out _).mono ?_
  clear HL
  rintro e w6 ⟨rfl, hb6⟩
  have B6 := Lib.hid (after B5.out hb6)
  have k0 := (hb6.cell (World.block_lt_of_cell? _ _ k0)).trans k0
  have k1 := (hb6.cell (World.block_lt_of_cell? _ _ k1)).trans k1
  have R0 := Lib.hid ((hb6.cell (World.block_lt_of_cell? _ _ R0.out)).trans R0.out)
  have R1 := Lib.hid ((hb6.cell (World.block_lt_of_cell? _ _ R1.out)).trans R1.out)
  clear hb6 B5
  go_wp2_with fail
  refine (HP.out _).mono ?_
  clear HP
  rintro e w7 ⟨rfl, rfl⟩
  go_wp2_with fail
  have hG6 := HG.out.below B6.out
  have r0 := R0.out
  have r1 := R1.out
  clear HG R0 R1
  have cC := fun d os => Calls.regrown_of (d := d) (os := os) (HC.out (grow (redrawn w7 d) os))
  have cW := fun d os => Calls.regrown_of (d := d) (os := os) (works_calls (grow (redrawn w7 d) os) (hG6.below (below_regrown _ d os)))
  have cN := fun d os => Calls.regrown_of (d := d) (os := os) (((HN.out (grow (redrawn w7 d) os)).mono fun _ _ ⟨h1, h2⟩ => ⟨h1, h2 ▸ Below.refl _ _⟩))
  clear hG6 HC HN
  have k0 := fun d os => cell_regrown k0 d os
  have k1 := fun d os => cell_regrown k1 d os
  have r0 := fun d os => cell_regrown r0 d os
  have r1 := fun d os => cell_regrown r1 d os
  have hwr : IntKind.i64.wrap (1 + (q : Int)) = 1 + q := IntWalk.i64_in _ (by omega)
  refine wp_region_quiet_below (by kernel_rfl) (by kernel_rfl) ?_
  repeat (quiet_step (first | with_reducible exact cC _ _ | with_reducible exact cN _ _ | with_reducible exact cW _ _))
  refine wpQuiet_nil ?_
  intro _ hw'
  obtain ⟨⟨dq, osq⟩, hw''⟩ := hw'
  subst hw''
  go_wp2_with fail
  go_ret
  exact ⟨rfl, B6.out.trans ((below_regrown w7 dq osq).mono B6.out.size)⟩

set_option maxRecDepth 100000 in
set_option maxHeartbeats 2000000 in
theorem walk_eq0 (s : ByteArray) (m n : Int) (hs : s.size ≤ 200) (hm0 : 0 ≤ m) (hm1 : m ≤ 65535) (hn0 : 0 ≤ n) (hn1 : n ≤ 65535) (a b c : Nat) (hA : m % ((s.size : Int) + 1) = a) (hB : n % ((s.size : Int) + 1) = b)
    (ha : a ≤ s.size) (_hb : b ≤ s.size) (hk : c ≤ a) (t : Bytes) (hat : c ≤ t.length) (ht : a + t.length ≤ s.size + c) (q : Nat) (hq : q ≤ 200) (L2 C2 : Int) (heq : a = b) (h0 : c = a)
    (hO1 : ∀ W, Calls Tryd.prog 12 #[.string s, .int .i64 a] W fun e w' => e = .returned (.tuple #[.agg #[.int .i64 (1 + q), .int .i64 (c + 1)], .int .i64 0]) ∧ Below W.heap.size W w')
    (hO2 : ∀ W, Calls Tryd.prog 12 #[.string s, .int .i64 b] W fun e w' => e = .returned (.tuple #[.agg #[.int .i64 L2, .int .i64 C2], .int .i64 0]) ∧ Below W.heap.size W w')
    (hF : ∀ W, Calls Tryd.prog 14 #[.string s, .agg #[.int .i64 (1 + q), .int .i64 (c + 1)]] W fun e w' => e = .returned (.tuple #[.int .i64 a, .int .i64 0]) ∧ Below W.heap.size W w')
    (hL : ∀ W, Calls Tryd.prog 16 #[.string s, .int .i64 (1 + q)] W fun e w' => e = .returned (.tuple #[.string (B t), .int .i64 0]) ∧ Below W.heap.size W w')
    (hP : ∀ W, Calls Tryd.prog 26 #[.string (s), .string (B t)] W fun e w' => e = .returned (.bool true) ∧ w' = W)
    (hC : ∀ W, Calls Tryd.prog 24 #[.agg #[.int .i64 (1 + q), .int .i64 (c + 1)], .agg #[.int .i64 L2, .int .i64 C2]] W fun e w' => e = .returned (.int .i64 (0)) ∧ Below W.heap.size W w')
    (hN : ∀ W, Calls Tryd.prog 27 #[.string (s.extract 0 a), .string ⟨#[10]⟩] W fun e w' => e = .returned (.int .i64 q) ∧ w' = W)
    (w : World) (hG : Glob w) :
    Calls Tryd.prog 5 #[.string s, .int .u16 m, .int .u16 n] w fun e w' => e = .returned (.bool true) ∧ Below w.heap.size w w' := by
  subst heq
  subst h0
  have HG := Lib.hid hG
  have HO1 := Lib.hid hO1
  have HO2 := Lib.hid hO2
  have HF := Lib.hid hF
  have HL := Lib.hid hL
  have HP := Lib.hid hP
  have HC := Lib.hid hC
  have HN := Lib.hid hN
  have HA := Lib.hid hA
  have HB := Lib.hid hB
  clear hG hO1 hO2 hF hL hP hC hN hA hB
  have p0 : (0 : Int) ≤ (s.size : Int) + 1 := by omega
  have p1 : (1 : Int) ≤ (s.size : Int) + 1 := by omega
  go_enter Tryd.func5, Tryd.ntmps5
  go_wp2_with fail
  go_quiet (fail)
  rw [HA.out, HB.out]
  clear HA HB p0 p1
  go_wp2_with fail
  refine (HO1.out _).mono ?_
  clear HO1
  rintro e w1 ⟨rfl, hb1⟩
  have B1 := Lib.hid (after (below_drewN (Below.refl w.heap.size w) _) hb1)
  clear hb1
  have q0 := Lib.hid (Cell.new w1 #[.int .i64 (1 + q), .int .i64 ((c : Int) + 1)] 24 0 _ rfl)
  have q1 := Lib.hid (Cell.new w1 #[.int .i64 (1 + q), .int .i64 ((c : Int) + 1)] 24 1 _ rfl)
  have C1 := Lib.hid (B1.out.alloc B1.out.size (.cells #[.int .i64 (1 + q), .int .i64 ((c : Int) + 1)] 24))
  have z1 := Lib.hid (show w1.heap.size < (w1.alloc (.cells #[.int .i64 (1 + q), .int .i64 ((c : Int) + 1)] 24)).heap.size by simp)
  clear B1
  go_wp2_with fail
  refine (HO2.out _).mono ?_
  clear HO2
  generalize w1.alloc (.cells #[.int .i64 (1 + q), .int .i64 ((c : Int) + 1)] 24) = w2 at *
  rintro e w3 ⟨rfl, hb3⟩
  have B3 := Lib.hid (after C1.out hb3)
  have q0 := Lib.hid (q0.out.below hb3 z1.out)
  have q1 := Lib.hid (q1.out.below hb3 z1.out)
  have z3 := Lib.hid (Nat.lt_of_lt_of_le z1.out hb3.size)
  clear hb3 C1 z1
  have C3 := Lib.hid (B3.out.alloc B3.out.size (.cells #[.int .i64 L2, .int .i64 C2] 24))
  have q0 := Lib.hid (q0.out.alloc (.cells #[.int .i64 L2, .int .i64 C2] 24))
  have q1 := Lib.hid (q1.out.alloc (.cells #[.int .i64 L2, .int .i64 C2] 24))
  have r0 := Lib.hid (Cell.new w3 #[.int .i64 L2, .int .i64 C2] 24 0 _ rfl)
  have r1 := Lib.hid (Cell.new w3 #[.int .i64 L2, .int .i64 C2] 24 1 _ rfl)
  have zz := z3.out
  clear B3
  have k0 := q0.out.1
  have k1 := q1.out.1
  go_wp2_with fail
  clear k0 k1 zz
  refine (HF.out _).mono ?_
  clear HF
  generalize w3.alloc (.cells #[.int .i64 L2, .int .i64 C2] 24) = w4 at *
  rintro e w5 ⟨rfl, hb5⟩
  have B5 := Lib.hid (after C3.out hb5)
  have k0 := ((q0.out.below hb5 (World.block_lt_of_cell? _ _ q0.out.1))).1
  have k1 := ((q1.out.below hb5 (World.block_lt_of_cell? _ _ q1.out.1))).1
  have R0 := Lib.hid ((r0.out.below hb5 (World.block_lt_of_cell? _ _ r0.out.1))).1
  have R1 := Lib.hid ((r1.out.below hb5 (World.block_lt_of_cell? _ _ r1.out.1))).1
  clear hb5 C3 q0 q1 r0 r1 z3
  go_wp2_with fail
  refine (HL.out _).mono ?_
  clear HL
  rintro e w6 ⟨rfl, hb6⟩
  have B6 := Lib.hid (after B5.out hb6)
  have k0 := (hb6.cell (World.block_lt_of_cell? _ _ k0)).trans k0
  have k1 := (hb6.cell (World.block_lt_of_cell? _ _ k1)).trans k1
  have R0 := Lib.hid ((hb6.cell (World.block_lt_of_cell? _ _ R0.out)).trans R0.out)
  have R1 := Lib.hid ((hb6.cell (World.block_lt_of_cell? _ _ R1.out)).trans R1.out)
  clear hb6 B5
  go_wp2_with fail
  refine (HP.out _).mono ?_
  clear HP
  rintro e w7 ⟨rfl, rfl⟩
  go_wp2_with fail
  have hG6 := HG.out.below B6.out
  have r0 := R0.out
  have r1 := R1.out
  clear HG R0 R1
  have cC := fun d os => Calls.regrown_of (d := d) (os := os) (HC.out (grow (redrawn w7 d) os))
  have cW := fun d os => Calls.regrown_of (d := d) (os := os) (works_calls (grow (redrawn w7 d) os) (hG6.below (below_regrown _ d os)))
  have cN := fun d os => Calls.regrown_of (d := d) (os := os) (((HN.out (grow (redrawn w7 d) os)).mono fun _ _ ⟨h1, h2⟩ => ⟨h1, h2 ▸ Below.refl _ _⟩))
  clear hG6 HC HN
  have k0 := fun d os => cell_regrown k0 d os
  have k1 := fun d os => cell_regrown k1 d os
  have r0 := fun d os => cell_regrown r0 d os
  have r1 := fun d os => cell_regrown r1 d os
  have hwr : IntKind.i64.wrap (1 + (q : Int)) = 1 + q := IntWalk.i64_in _ (by omega)
  refine wp_region_quiet_below (by kernel_rfl) (by kernel_rfl) ?_
  repeat (quiet_step (first | with_reducible exact cC _ _ | with_reducible exact cN _ _ | with_reducible exact cW _ _))
  refine wpQuiet_nil ?_
  intro _ hw'
  obtain ⟨⟨dq, osq⟩, hw''⟩ := hw'
  subst hw''
  go_wp2_with fail
  go_ret
  exact ⟨rfl, B6.out.trans ((below_regrown w7 dq osq).mono B6.out.size)⟩
end Go.Proofs.YthjpcfohpbbacaaDoor.back
