/-
  StmtTypes, where the word is one of a type.
-/
import Derived.Test.YtoldhocdfkndbaaGreatDoorTLws
namespace Go.Proofs.YtoldhocdfkndbaaGreatDoor.E6
open Go Go.RowKit Go.Proofs.YtoldhocdfkndbaaGreatDoor Go.Proofs.YtoldhocdfkndbaaGreatDoor.E5

set_option maxRecDepth 100000 in
set_option maxHeartbeats 40000000 in
theorem types_nlo (hWk : WorksR6) (s : Bytes) (hl : s.length ≤ 100) (x1 : Int) (h0 : typW s ≠ 0) (ht : x1 < 1) (w : World) (hG : Glob6 w) :
    Calls Tryz.prog 13 #[.string (B s), .int .i64 x1] w fun e w' => e = .returned (.bool true) ∧ Below w.heap.size w w' := by
  have HWk := Lib.hid hWk
  have HG := Lib.hid hG
  have hl' : (((B s).size : Nat) : Int) ≤ 100 := by show ((s.toArray.size : Nat) : Int) ≤ 100; simp; omega
  have hr := typW_lo s
  have hwt : typW s ≠ 0 → wordT (typW s) = s := fun h => typ_back h
  have hz : (wordT x1 == []) = true := by rw [word_out (by omega)]; rfl
  have W1 := Lib.hid (fun W (hW : GlobW W) => (word_calls 1 W hW : Calls Tryz.prog 46 #[.int .i64 1] W fun e w' => e = .returned (.string (B wInt)) ∧ Below W.heap.size W w'))
  have K1 := Lib.hid (fun W (hW : GlobW W) => (type_calls wInt W hW : Calls Tryz.prog 44 #[.string (B wInt)] W fun e w' => e = .returned (.int .i64 1) ∧ Below W.heap.size W w'))
  have W2 := Lib.hid (fun W (hW : GlobW W) => (word_calls 2 W hW : Calls Tryz.prog 46 #[.int .i64 2] W fun e w' => e = .returned (.string (B wBool)) ∧ Below W.heap.size W w'))
  have K2 := Lib.hid (fun W (hW : GlobW W) => (type_calls wBool W hW : Calls Tryz.prog 44 #[.string (B wBool)] W fun e w' => e = .returned (.int .i64 2) ∧ Below W.heap.size W w'))
  have W3 := Lib.hid (fun W (hW : GlobW W) => (word_calls 3 W hW : Calls Tryz.prog 46 #[.int .i64 3] W fun e w' => e = .returned (.string (B wArray)) ∧ Below W.heap.size W w'))
  have K3 := Lib.hid (fun W (hW : GlobW W) => (type_calls wArray W hW : Calls Tryz.prog 44 #[.string (B wArray)] W fun e w' => e = .returned (.int .i64 3) ∧ Below W.heap.size W w'))
  have T := Lib.hid (fun W (hW : GlobW W) => type_calls s W hW)
  have Z := Lib.hid (fun W (hW : GlobW W) => word_calls x1 W hW)
  have hY : ∀ W, GlobW W → Calls Tryz.prog 46 #[.int .i64 (typW s)] W fun e w' => e = .returned (.string (B s)) ∧ Below W.heap.size W w' := fun W hW => by
    have h := word_calls (typW s) W hW
    rw [hwt h0] at h
    exact h
  have Y := Lib.hid hY
  clear hY
  have qs : (s == s) = true := beq_self_eq_true _
  have q0 : (typW s == 0) = false := beq_eq_false_iff_ne.2 h0
  have q0n : (typW s != 0) = true := bne_iff_ne.2 h0
  have qsn : (s != s) = false := bne_self_eq_false _
  have q1 : ¬ typW s < 0 := by omega
  have q2 : ¬ 3 < typW s := by omega
  clear hwt hr h0
  generalize typW s = a at *
  have t1 : x1 < 1 := ht
  clear hG hWk ht
  generalize wordT x1 = z at *
  go_enter Tryz.func13, Tryz.ntmps13
  go_wp2_with fail
  refine wp_loop_rounds 4 ?_
  rw [rounds_succ]
  go_wp2_with fail
  refine (W1.out _ HG.out.g).mono ?_
  rintro E w1 ⟨rfl, hb⟩
  have HB1 := Lib.hid (hb)
  clear hb
  go_wp2_with fail
  refine (K1.out _ (HG.out.up HB1.out).g).mono ?_
  rintro E w2 ⟨rfl, hb⟩
  have HB2 := Lib.hid (after HB1.out hb)
  clear hb
  go_wp2_with fail
  rw [rounds_succ]
  go_wp2_with fail
  refine (W2.out _ (HG.out.up HB2.out).g).mono ?_
  rintro E w3 ⟨rfl, hb⟩
  have HB3 := Lib.hid (after HB2.out hb)
  clear hb
  go_wp2_with fail
  refine (K2.out _ (HG.out.up HB3.out).g).mono ?_
  rintro E w4 ⟨rfl, hb⟩
  have HB4 := Lib.hid (after HB3.out hb)
  clear hb
  go_wp2_with fail
  rw [rounds_succ]
  go_wp2_with fail
  refine (W3.out _ (HG.out.up HB4.out).g).mono ?_
  rintro E w5 ⟨rfl, hb⟩
  have HB5 := Lib.hid (after HB4.out hb)
  clear hb
  go_wp2_with fail
  refine (K3.out _ (HG.out.up HB5.out).g).mono ?_
  rintro E w6 ⟨rfl, hb⟩
  have HB6 := Lib.hid (after HB5.out hb)
  clear hb
  go_wp2_with fail
  rw [rounds_succ]
  go_wp2_with fail
  refine (T.out _ (HG.out.up HB6.out).g).mono ?_
  rintro E w7 ⟨rfl, hb⟩
  have HB7 := Lib.hid (after HB6.out hb)
  clear hb
  go_wp2_with fail
  refine (Y.out _ (HG.out.up HB7.out).g).mono ?_
  rintro E w8 ⟨rfl, hb⟩
  have HB8 := Lib.hid (after HB7.out hb)
  clear hb
  go_wp2_with fail
  refine (Z.out _ (HG.out.up HB8.out).g).mono ?_
  rintro E w9 ⟨rfl, hb⟩
  have HB9 := Lib.hid (after HB8.out hb)
  clear hb
  go_wp2_with fail
  refine (HWk.out _ (HG.out.up HB9.out)).mono ?_
  rintro E w10 ⟨rfl, hb⟩
  have HB10 := Lib.hid (after HB9.out hb)
  clear hb
  go_wp2_with fail
  go_ret
  exact ⟨rfl, HB10.out⟩
set_option maxRecDepth 100000 in
set_option maxHeartbeats 40000000 in
theorem types_nin (hWk : WorksR6) (s : Bytes) (hl : s.length ≤ 100) (x1 : Int) (h0 : typW s ≠ 0) (ht : 1 ≤ x1 ∧ x1 ≤ 3) (w : World) (hG : Glob6 w) :
    Calls Tryz.prog 13 #[.string (B s), .int .i64 x1] w fun e w' => e = .returned (.bool true) ∧ Below w.heap.size w w' := by
  have HWk := Lib.hid hWk
  have HG := Lib.hid hG
  have hl' : (((B s).size : Nat) : Int) ≤ 100 := by show ((s.toArray.size : Nat) : Int) ≤ 100; simp; omega
  have hr := typW_lo s
  have hwt : typW s ≠ 0 → wordT (typW s) = s := fun h => typ_back h
  have hz : (wordT x1 == []) = false := by exact beq_eq_false_iff_ne.2 (word_in ht)
  have W1 := Lib.hid (fun W (hW : GlobW W) => (word_calls 1 W hW : Calls Tryz.prog 46 #[.int .i64 1] W fun e w' => e = .returned (.string (B wInt)) ∧ Below W.heap.size W w'))
  have K1 := Lib.hid (fun W (hW : GlobW W) => (type_calls wInt W hW : Calls Tryz.prog 44 #[.string (B wInt)] W fun e w' => e = .returned (.int .i64 1) ∧ Below W.heap.size W w'))
  have W2 := Lib.hid (fun W (hW : GlobW W) => (word_calls 2 W hW : Calls Tryz.prog 46 #[.int .i64 2] W fun e w' => e = .returned (.string (B wBool)) ∧ Below W.heap.size W w'))
  have K2 := Lib.hid (fun W (hW : GlobW W) => (type_calls wBool W hW : Calls Tryz.prog 44 #[.string (B wBool)] W fun e w' => e = .returned (.int .i64 2) ∧ Below W.heap.size W w'))
  have W3 := Lib.hid (fun W (hW : GlobW W) => (word_calls 3 W hW : Calls Tryz.prog 46 #[.int .i64 3] W fun e w' => e = .returned (.string (B wArray)) ∧ Below W.heap.size W w'))
  have K3 := Lib.hid (fun W (hW : GlobW W) => (type_calls wArray W hW : Calls Tryz.prog 44 #[.string (B wArray)] W fun e w' => e = .returned (.int .i64 3) ∧ Below W.heap.size W w'))
  have T := Lib.hid (fun W (hW : GlobW W) => type_calls s W hW)
  have Z := Lib.hid (fun W (hW : GlobW W) => word_calls x1 W hW)
  have hY : ∀ W, GlobW W → Calls Tryz.prog 46 #[.int .i64 (typW s)] W fun e w' => e = .returned (.string (B s)) ∧ Below W.heap.size W w' := fun W hW => by
    have h := word_calls (typW s) W hW
    rw [hwt h0] at h
    exact h
  have Y := Lib.hid hY
  clear hY
  have qs : (s == s) = true := beq_self_eq_true _
  have q0 : (typW s == 0) = false := beq_eq_false_iff_ne.2 h0
  have q0n : (typW s != 0) = true := bne_iff_ne.2 h0
  have qsn : (s != s) = false := bne_self_eq_false _
  have q1 : ¬ typW s < 0 := by omega
  have q2 : ¬ 3 < typW s := by omega
  clear hwt hr h0
  generalize typW s = a at *
  have t1 : ¬ x1 < 1 := by omega
  have t2 : ¬ 3 < x1 := by omega
  clear hG hWk ht
  generalize wordT x1 = z at *
  go_enter Tryz.func13, Tryz.ntmps13
  go_wp2_with fail
  refine wp_loop_rounds 4 ?_
  rw [rounds_succ]
  go_wp2_with fail
  refine (W1.out _ HG.out.g).mono ?_
  rintro E w1 ⟨rfl, hb⟩
  have HB1 := Lib.hid (hb)
  clear hb
  go_wp2_with fail
  refine (K1.out _ (HG.out.up HB1.out).g).mono ?_
  rintro E w2 ⟨rfl, hb⟩
  have HB2 := Lib.hid (after HB1.out hb)
  clear hb
  go_wp2_with fail
  rw [rounds_succ]
  go_wp2_with fail
  refine (W2.out _ (HG.out.up HB2.out).g).mono ?_
  rintro E w3 ⟨rfl, hb⟩
  have HB3 := Lib.hid (after HB2.out hb)
  clear hb
  go_wp2_with fail
  refine (K2.out _ (HG.out.up HB3.out).g).mono ?_
  rintro E w4 ⟨rfl, hb⟩
  have HB4 := Lib.hid (after HB3.out hb)
  clear hb
  go_wp2_with fail
  rw [rounds_succ]
  go_wp2_with fail
  refine (W3.out _ (HG.out.up HB4.out).g).mono ?_
  rintro E w5 ⟨rfl, hb⟩
  have HB5 := Lib.hid (after HB4.out hb)
  clear hb
  go_wp2_with fail
  refine (K3.out _ (HG.out.up HB5.out).g).mono ?_
  rintro E w6 ⟨rfl, hb⟩
  have HB6 := Lib.hid (after HB5.out hb)
  clear hb
  go_wp2_with fail
  rw [rounds_succ]
  go_wp2_with fail
  refine (T.out _ (HG.out.up HB6.out).g).mono ?_
  rintro E w7 ⟨rfl, hb⟩
  have HB7 := Lib.hid (after HB6.out hb)
  clear hb
  go_wp2_with fail
  refine (Y.out _ (HG.out.up HB7.out).g).mono ?_
  rintro E w8 ⟨rfl, hb⟩
  have HB8 := Lib.hid (after HB7.out hb)
  clear hb
  go_wp2_with fail
  refine (Z.out _ (HG.out.up HB8.out).g).mono ?_
  rintro E w9 ⟨rfl, hb⟩
  have HB9 := Lib.hid (after HB8.out hb)
  clear hb
  go_wp2_with fail
  refine (HWk.out _ (HG.out.up HB9.out)).mono ?_
  rintro E w10 ⟨rfl, hb⟩
  have HB10 := Lib.hid (after HB9.out hb)
  clear hb
  go_wp2_with fail
  go_ret
  exact ⟨by show Ending.returned (.bool (!decide (x1 < 1) && !decide (3 < x1))) = _; rw [decide_eq_false (show ¬ x1 < 1 by omega), decide_eq_false (show ¬ 3 < x1 by omega)]; rfl, HB10.out⟩
set_option maxRecDepth 100000 in
set_option maxHeartbeats 40000000 in
theorem types_nhi (hWk : WorksR6) (s : Bytes) (hl : s.length ≤ 100) (x1 : Int) (h0 : typW s ≠ 0) (ht : 3 < x1) (w : World) (hG : Glob6 w) :
    Calls Tryz.prog 13 #[.string (B s), .int .i64 x1] w fun e w' => e = .returned (.bool true) ∧ Below w.heap.size w w' := by
  have HWk := Lib.hid hWk
  have HG := Lib.hid hG
  have hl' : (((B s).size : Nat) : Int) ≤ 100 := by show ((s.toArray.size : Nat) : Int) ≤ 100; simp; omega
  have hr := typW_lo s
  have hwt : typW s ≠ 0 → wordT (typW s) = s := fun h => typ_back h
  have hz : (wordT x1 == []) = true := by rw [word_out (by omega)]; rfl
  have W1 := Lib.hid (fun W (hW : GlobW W) => (word_calls 1 W hW : Calls Tryz.prog 46 #[.int .i64 1] W fun e w' => e = .returned (.string (B wInt)) ∧ Below W.heap.size W w'))
  have K1 := Lib.hid (fun W (hW : GlobW W) => (type_calls wInt W hW : Calls Tryz.prog 44 #[.string (B wInt)] W fun e w' => e = .returned (.int .i64 1) ∧ Below W.heap.size W w'))
  have W2 := Lib.hid (fun W (hW : GlobW W) => (word_calls 2 W hW : Calls Tryz.prog 46 #[.int .i64 2] W fun e w' => e = .returned (.string (B wBool)) ∧ Below W.heap.size W w'))
  have K2 := Lib.hid (fun W (hW : GlobW W) => (type_calls wBool W hW : Calls Tryz.prog 44 #[.string (B wBool)] W fun e w' => e = .returned (.int .i64 2) ∧ Below W.heap.size W w'))
  have W3 := Lib.hid (fun W (hW : GlobW W) => (word_calls 3 W hW : Calls Tryz.prog 46 #[.int .i64 3] W fun e w' => e = .returned (.string (B wArray)) ∧ Below W.heap.size W w'))
  have K3 := Lib.hid (fun W (hW : GlobW W) => (type_calls wArray W hW : Calls Tryz.prog 44 #[.string (B wArray)] W fun e w' => e = .returned (.int .i64 3) ∧ Below W.heap.size W w'))
  have T := Lib.hid (fun W (hW : GlobW W) => type_calls s W hW)
  have Z := Lib.hid (fun W (hW : GlobW W) => word_calls x1 W hW)
  have hY : ∀ W, GlobW W → Calls Tryz.prog 46 #[.int .i64 (typW s)] W fun e w' => e = .returned (.string (B s)) ∧ Below W.heap.size W w' := fun W hW => by
    have h := word_calls (typW s) W hW
    rw [hwt h0] at h
    exact h
  have Y := Lib.hid hY
  clear hY
  have qs : (s == s) = true := beq_self_eq_true _
  have q0 : (typW s == 0) = false := beq_eq_false_iff_ne.2 h0
  have q0n : (typW s != 0) = true := bne_iff_ne.2 h0
  have qsn : (s != s) = false := bne_self_eq_false _
  have q1 : ¬ typW s < 0 := by omega
  have q2 : ¬ 3 < typW s := by omega
  clear hwt hr h0
  generalize typW s = a at *
  have t1 : ¬ x1 < 1 := by omega
  have t2 : 3 < x1 := ht
  clear hG hWk ht
  generalize wordT x1 = z at *
  go_enter Tryz.func13, Tryz.ntmps13
  go_wp2_with fail
  refine wp_loop_rounds 4 ?_
  rw [rounds_succ]
  go_wp2_with fail
  refine (W1.out _ HG.out.g).mono ?_
  rintro E w1 ⟨rfl, hb⟩
  have HB1 := Lib.hid (hb)
  clear hb
  go_wp2_with fail
  refine (K1.out _ (HG.out.up HB1.out).g).mono ?_
  rintro E w2 ⟨rfl, hb⟩
  have HB2 := Lib.hid (after HB1.out hb)
  clear hb
  go_wp2_with fail
  rw [rounds_succ]
  go_wp2_with fail
  refine (W2.out _ (HG.out.up HB2.out).g).mono ?_
  rintro E w3 ⟨rfl, hb⟩
  have HB3 := Lib.hid (after HB2.out hb)
  clear hb
  go_wp2_with fail
  refine (K2.out _ (HG.out.up HB3.out).g).mono ?_
  rintro E w4 ⟨rfl, hb⟩
  have HB4 := Lib.hid (after HB3.out hb)
  clear hb
  go_wp2_with fail
  rw [rounds_succ]
  go_wp2_with fail
  refine (W3.out _ (HG.out.up HB4.out).g).mono ?_
  rintro E w5 ⟨rfl, hb⟩
  have HB5 := Lib.hid (after HB4.out hb)
  clear hb
  go_wp2_with fail
  refine (K3.out _ (HG.out.up HB5.out).g).mono ?_
  rintro E w6 ⟨rfl, hb⟩
  have HB6 := Lib.hid (after HB5.out hb)
  clear hb
  go_wp2_with fail
  rw [rounds_succ]
  go_wp2_with fail
  refine (T.out _ (HG.out.up HB6.out).g).mono ?_
  rintro E w7 ⟨rfl, hb⟩
  have HB7 := Lib.hid (after HB6.out hb)
  clear hb
  go_wp2_with fail
  refine (Y.out _ (HG.out.up HB7.out).g).mono ?_
  rintro E w8 ⟨rfl, hb⟩
  have HB8 := Lib.hid (after HB7.out hb)
  clear hb
  go_wp2_with fail
  refine (Z.out _ (HG.out.up HB8.out).g).mono ?_
  rintro E w9 ⟨rfl, hb⟩
  have HB9 := Lib.hid (after HB8.out hb)
  clear hb
  go_wp2_with fail
  refine (HWk.out _ (HG.out.up HB9.out)).mono ?_
  rintro E w10 ⟨rfl, hb⟩
  have HB10 := Lib.hid (after HB9.out hb)
  clear hb
  go_wp2_with fail
  go_ret
  exact ⟨rfl, HB10.out⟩
end Go.Proofs.YtoldhocdfkndbaaGreatDoor.E6
