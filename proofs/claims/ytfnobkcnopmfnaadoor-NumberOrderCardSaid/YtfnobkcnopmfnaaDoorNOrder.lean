/-
  NumberOrder: the law's walk.
-/
import Derived.Test.YtfnobkcnopmfnaaDoorNFrame
namespace Go.Proofs.YtfnobkcnopmfnaaDoor.order
open Go Go.RowKit Go.Proofs.YtfnobkcnopmfnaaDoor

def cmpB (a b : Int) (j : Nat) : Bool := (cmpN j a b).getD false
theorem cmp_is (a b : Int) (m : Nat) (h1 : 6 ≤ m) (h2 : m ≤ 11) (W : World) :
    Calls Tryd.prog 21 #[.int .i64 m, .int .i64 a, .int .i64 b] W fun e w' => e = .returned (.tuple #[.bool (cmpB a b m), .int .i64 0]) ∧ Below W.heap.size W w' := by
  have h := compare_calls m a b W
  have hs : ∃ x, cmpN m a b = some x := by
    obtain rfl | rfl | rfl | rfl | rfl | rfl : m = 6 ∨ m = 7 ∨ m = 8 ∨ m = 9 ∨ m = 10 ∨ m = 11 := by omega
    all_goals exact ⟨_, rfl⟩
  obtain ⟨x, hx⟩ := hs
  rw [show cmpB a b m = x by unfold cmpB; rw [hx]; rfl]
  rw [hx] at h
  exact h

/-- The first results of a row of comparisons lie in block b. -/
def Arr (W : World) (b : Nat) (X : Nat → Bool) (m : Nat) : Prop := ∀ j, j < 16 → Cell W ⟨b, j, none⟩ (.bool (if 6 ≤ j ∧ j < m then X j else false))
theorem Arr.new (W : World) (X : Nat → Bool) (T : TypeId) : Arr (W.alloc (.cells #[.bool false, .bool false, .bool false, .bool false, .bool false, .bool false, .bool false, .bool false, .bool false, .bool false, .bool false, .bool false, .bool false, .bool false, .bool false, .bool false] T)) W.heap.size X 6 := by
  intro j hj
  rw [if_neg (by omega)]
  refine Cell.new W _ T j _ ?_
  obtain rfl | rfl | rfl | rfl | rfl | rfl | rfl | rfl | rfl | rfl | rfl | rfl | rfl | rfl | rfl | rfl : j = 0 ∨ j = 1 ∨ j = 2 ∨ j = 3 ∨ j = 4 ∨ j = 5 ∨ j = 6 ∨ j = 7 ∨ j = 8 ∨ j = 9 ∨ j = 10 ∨ j = 11 ∨ j = 12 ∨ j = 13 ∨ j = 14 ∨ j = 15 := by omega
  all_goals rfl
theorem Arr.below {W W' : World} {b m n : Nat} {X : Nat → Bool} (h : Arr W b X m) (hb : Below n W W') (hn : b < n) : Arr W' b X m := fun j hj => (h j hj).below hb hn
theorem Arr.alloc {W : World} {b m : Nat} {X : Nat → Bool} (h : Arr W b X m) (o : Obj) : Arr (W.alloc o) b X m := fun j hj => (h j hj).alloc o
theorem Arr.set {W : World} {b m : Nat} {X : Nat → Bool} (h : Arr W b X m) (h1 : 6 ≤ m) (h2 : m < 16) : Arr (W.setCell ⟨b, m, none⟩ (.bool (X m))) b X (m + 1) := by
  intro j hj
  by_cases e : j = m
  · subst e
    rw [if_pos (by omega)]
    exact (h j hj).set _
  · have := (h j hj).setOther (q := ⟨b, m, none⟩) (by intro e2; cases e2; exact e rfl) (.bool (X m))
    rw [show (if 6 ≤ j ∧ j < m + 1 then X j else false) = (if 6 ≤ j ∧ j < m then X j else false) by
      by_cases c : 6 ≤ j ∧ j < m
      · rw [if_pos c, if_pos (by omega)]
      · rw [if_neg c, if_neg (by omega)]]
    exact this
theorem Arr.other {W : World} {b m : Nat} {X : Nat → Bool} (h : Arr W b X m) {q : Addr} (hq : q.block ≠ b) (v : Value) : Arr (W.setCell q v) b X m :=
  fun j hj => (h j hj).setOther (by intro e; exact hq (by rw [e])) v
theorem Arr.at {W : World} {b : Nat} {X : Nat → Bool} (h : Arr W b X 12) (j : Nat) (h1 : 6 ≤ j) (h2 : j < 12) : W.cell? ⟨b, j, none⟩ = some (.bool (X j)) := by
  have := (h j (by omega)).1
  rw [if_pos ⟨h1, h2⟩] at this
  exact this

theorem valsLt (a b : Int) (hab : a < b) : (cmpB a b 6 = false ∧ cmpB a b 7 = true ∧ cmpB a b 8 = true ∧ cmpB a b 9 = true ∧ cmpB a b 10 = false ∧ cmpB a b 11 = false) ∧ cmpB b a 6 = false ∧ cmpB b a 10 = true := by
  refine ⟨⟨?_, ?_, ?_, ?_, ?_, ?_⟩, ?_, ?_⟩ <;> (simp [cmpB, cmpN] <;> omega)

set_option maxRecDepth 100000 in
set_option maxHeartbeats 8000000 in
theorem walkLt (a b : Int) (hab : a < b) (w : World) (hG : Glob w) :
    Calls Tryd.prog 9 #[.int .i64 a, .int .i64 b] w fun e w' => e = .returned (.bool true) ∧ Below w.heap.size w w' := by
  have HG := Lib.hid hG
  have HV := Lib.hid (valsLt a b hab)
  have eq1 : (a == b) = false := by simp <;> omega
  have lt1 : decide (a < b) = true := by simp <;> omega
  have C1 := Lib.hid (cmp_is a b)
  have C2 := Lib.hid (cmp_is b a)
  obtain ⟨X, hX⟩ : ∃ X, cmpB a b = X := ⟨_, rfl⟩
  obtain ⟨Y, hY⟩ : ∃ Y, cmpB b a = Y := ⟨_, rfl⟩
  rw [hX] at C1 HV
  rw [hY] at C2 HV
  have EQ1 := Lib.hid eq1
  have LT1 := Lib.hid lt1
  clear hG hab hX hY eq1 lt1
  go_enter Tryd.func9, Tryd.ntmps9
  go_wp2_with fail
  have a1 := (Arr.new w X 45).alloc (.cells #[.bool false, .bool false, .bool false, .bool false, .bool false, .bool false, .bool false, .bool false, .bool false, .bool false, .bool false, .bool false, .bool false, .bool false, .bool false, .bool false] 45)
  have a2 := Arr.new (w.alloc (.cells #[.bool false, .bool false, .bool false, .bool false, .bool false, .bool false, .bool false, .bool false, .bool false, .bool false, .bool false, .bool false, .bool false, .bool false, .bool false, .bool false] 45)) Y 45
  rw [World.size_alloc] at a2
  have hb0 : Below w.heap.size w ((w.alloc (.cells #[.bool false, .bool false, .bool false, .bool false, .bool false, .bool false, .bool false, .bool false, .bool false, .bool false, .bool false, .bool false, .bool false, .bool false, .bool false, .bool false] 45)).alloc (.cells #[.bool false, .bool false, .bool false, .bool false, .bool false, .bool false, .bool false, .bool false, .bool false, .bool false, .bool false, .bool false, .bool false, .bool false, .bool false, .bool false] 45)) := ((Below.refl _ w).alloc (Nat.le_refl _) _).alloc (by simp) _
  have hz0 : ((w.alloc (.cells #[.bool false, .bool false, .bool false, .bool false, .bool false, .bool false, .bool false, .bool false, .bool false, .bool false, .bool false, .bool false, .bool false, .bool false, .bool false, .bool false] 45)).alloc (.cells #[.bool false, .bool false, .bool false, .bool false, .bool false, .bool false, .bool false, .bool false, .bool false, .bool false, .bool false, .bool false, .bool false, .bool false, .bool false, .bool false] 45)).heap.size = w.heap.size + 2 := by simp
  generalize (w.alloc (.cells #[.bool false, .bool false, .bool false, .bool false, .bool false, .bool false, .bool false, .bool false, .bool false, .bool false, .bool false, .bool false, .bool false, .bool false, .bool false, .bool false] 45)).alloc (.cells #[.bool false, .bool false, .bool false, .bool false, .bool false, .bool false, .bool false, .bool false, .bool false, .bool false, .bool false, .bool false, .bool false, .bool false, .bool false, .bool false] 45) = w0 at a1 a2 hb0 hz0 ⊢
  generalize hn0 : w.heap.size = n0 at *
  have HN0 := Lib.hid hn0
  have A1 := Lib.hid a1
  have A2 := Lib.hid a2
  have B0 := Lib.hid hb0
  have Z0 := Lib.hid (Nat.le_of_eq hz0.symm)
  clear hn0 a1 a2 hb0 hz0
  have HGB : Hid (∀ W, Below n0 w W → Glob W) := Lib.hid fun W h => by
    rw [← HN0.out] at h
    exact HG.out.below h
  go_loopw [7] (fun i wr => ∃ m : Nat, 6 ≤ m ∧ m ≤ 12 ∧ i = .int .i64 m ∧ Hid (Arr wr n0 X m) ∧ Hid (Arr wr (n0 + 1) Y m) ∧ Hid (Below n0 w wr) ∧ Hid (n0 + 2 ≤ wr.heap.size)) (fun i _ => 12 - (intOf i).toNat)
  case atStart => exact ⟨6, by omega, by omega, rfl, A1, A2, B0, Z0⟩
  case round =>
    obtain ⟨m, hm1, hm2, rfl, hA1, hA2, hB, hZ⟩ := hrel
    clear A1 A2 B0 Z0
    by_cases hlt : m ≤ 11
    · have D1 := Lib.hid (fun W => C1.out m hm1 hlt W)
      have D2 := Lib.hid (fun W => C2.out m hm1 hlt W)
      clear C1 C2 HV EQ1 LT1
      go_wp2_with fail
      refine (D1.out _).mono ?_
      rintro e w1 ⟨rfl, hb⟩
      have E1 := Lib.hid (hA1.out.below hb (by have := hZ.out; omega))
      have E2 := Lib.hid (hA2.out.below hb (by have := hZ.out; omega))
      have E3 := Lib.hid (hB.out.trans (hb.mono (by have := hZ.out; omega)))
      have E4 : Hid (n0 + 2 ≤ w1.heap.size) := Lib.hid (Nat.le_trans hZ.out hb.size)
      clear hb hA1 hA2 hB hZ D1
      go_wp2_with fail
      refine (D2.out _).mono ?_
      rintro e w2 ⟨rfl, hb⟩
      have F1 := Lib.hid (E1.out.below hb (by have := E4.out; omega))
      have F2 := Lib.hid (E2.out.below hb (by have := E4.out; omega))
      have F3 := Lib.hid (E3.out.trans (hb.mono (by have := E4.out; omega)))
      have F4 : Hid (n0 + 2 ≤ w2.heap.size) := Lib.hid (Nat.le_trans E4.out hb.size)
      clear hb E1 E2 E3 E4 D2
      obtain ⟨q1, p1⟩ := F1.out m (by omega)
      obtain ⟨q2, p2⟩ := F2.out m (by omega)
      have G1 := Lib.hid ((F1.out.set hm1 (by omega)).other (q := ⟨n0 + 1, m, none⟩) (show n0 + 1 ≠ n0 by omega) (.bool (Y m)))
      have G2 := Lib.hid ((F2.out.other (q := ⟨n0, m, none⟩) (show n0 ≠ n0 + 1 by omega) (.bool (X m))).set hm1 (by omega))
      have G3 := Lib.hid ((F3.out.setCell (p := ⟨n0, m, none⟩) (Nat.le_refl _) (.bool (X m))).setCell (p := ⟨n0 + 1, m, none⟩) (show n0 ≤ n0 + 1 by omega) (.bool (Y m)))
      have G4 : Hid (n0 + 2 ≤ ((w2.setCell ⟨n0, m, none⟩ (.bool (X m))).setCell ⟨n0 + 1, m, none⟩ (.bool (Y m))).heap.size) := Lib.hid (by simp only [World.setCell]; simpa using F4.out)
      clear F1 F2 F3 F4
      go_wp2_with fail
      go_roundw
      case rel => exact ⟨m + 1, by omega, by omega, by go_num, G1, G2, G3, G4⟩
      case measure => simp [intOf] <;> omega
    · obtain rfl : m = 12 := by omega
      clear hm1 hm2 C1 C2
      obtain ⟨⟨v6, v7, v8, v9, v10, v11⟩, y6, y10⟩ := HV.out
      have c6 := hA1.out.at 6 (by omega) (by omega)
      have c7 := hA1.out.at 7 (by omega) (by omega)
      have c8 := hA1.out.at 8 (by omega) (by omega)
      have c9 := hA1.out.at 9 (by omega) (by omega)
      have c10 := hA1.out.at 10 (by omega) (by omega)
      have c11 := hA1.out.at 11 (by omega) (by omega)
      have d6 := hA2.out.at 6 (by omega) (by omega)
      have d10 := hA2.out.at 10 (by omega) (by omega)
      rw [v6] at c6
      rw [v7] at c7
      rw [v8] at c8
      rw [v9] at c9
      rw [v10] at c10
      rw [v11] at c11
      rw [y6] at d6
      rw [y10] at d10
      clear v6 v7 v8 v9 v10 v11 y6 y10 HV hA1 hA2
      have hz := hZ.out
      have hb1 := hB.out.alloc (by omega) (.cells #[.int .i64 8, .int .i64 6, .int .i64 10] 3)
      have t0 := (Cell.new wr #[.int .i64 8, .int .i64 6, .int .i64 10] 3 0 _ rfl).1
      have t1 := (Cell.new wr #[.int .i64 8, .int .i64 6, .int .i64 10] 3 1 _ rfl).1
      have t2 := (Cell.new wr #[.int .i64 8, .int .i64 6, .int .i64 10] 3 2 _ rfl).1
      have hk := (Below.refl wr.heap.size wr).alloc (Nat.le_refl _) (.cells #[.int .i64 8, .int .i64 6, .int .i64 10] 3)
      replace c6 := (hk.cell (p := ⟨n0, 6, none⟩) (show n0 < wr.heap.size by omega)).trans c6
      replace c7 := (hk.cell (p := ⟨n0, 7, none⟩) (show n0 < wr.heap.size by omega)).trans c7
      replace c8 := (hk.cell (p := ⟨n0, 8, none⟩) (show n0 < wr.heap.size by omega)).trans c8
      replace c9 := (hk.cell (p := ⟨n0, 9, none⟩) (show n0 < wr.heap.size by omega)).trans c9
      replace c10 := (hk.cell (p := ⟨n0, 10, none⟩) (show n0 < wr.heap.size by omega)).trans c10
      replace c11 := (hk.cell (p := ⟨n0, 11, none⟩) (show n0 < wr.heap.size by omega)).trans c11
      replace d6 := (hk.cell (p := ⟨n0 + 1, 6, none⟩) (show n0 + 1 < wr.heap.size by omega)).trans d6
      replace d10 := (hk.cell (p := ⟨n0 + 1, 10, none⟩) (show n0 + 1 < wr.heap.size by omega)).trans d10
      have B1 := Lib.hid hb1
      have K6 := Lib.hid c6
      have K7 := Lib.hid c7
      have K8 := Lib.hid c8
      have K9 := Lib.hid c9
      have K10 := Lib.hid c10
      have K11 := Lib.hid c11
      have L6 := Lib.hid d6
      have L10 := Lib.hid d10
      have T0 := Lib.hid t0
      have T1 := Lib.hid t1
      have T2 := Lib.hid t2
      clear c6 c7 c8 c9 c10 c11 d6 d10 t0 t1 t2 hk hb1 hB hZ hz
      go_wp2_with fail
      generalize wr.alloc (.cells #[.int .i64 8, .int .i64 6, .int .i64 10] 3) = w1 at *
      go_loop [12, 47] (fun n i => (i = .int .i64 0 ∧ n = .int .i64 0) ∨ (i = .int .i64 1 ∧ n = .int .i64 1) ∨ (i = .int .i64 2 ∧ n = .int .i64 1) ∨ (i = .int .i64 3 ∧ n = .int .i64 1)) (fun _ i => 3 - (intOf i).toNat)
      case atStart => exact .inl ⟨rfl, rfl⟩
      case round =>
        rcases hrel with ⟨rfl, rfl⟩ | ⟨rfl, rfl⟩ | ⟨rfl, rfl⟩ | ⟨rfl, rfl⟩
        · have t := T0.out
          have c := K8.out
          go_wp2_with fail
          go_round
          case rel => exact .inr (.inl ⟨rfl, rfl⟩)
          case measure => simp [intOf]
        · have t := T1.out
          have c := K6.out
          go_wp2_with fail
          go_round
          case rel => exact .inr (.inr (.inl ⟨rfl, rfl⟩))
          case measure => simp [intOf]
        · have t := T2.out
          have c := K10.out
          go_wp2_with fail
          go_round
          case rel => exact .inr (.inr (.inr ⟨rfl, rfl⟩))
          case measure => simp [intOf]
        · have c6 := K6.out
          have c7 := K7.out
          have c8 := K8.out
          have c9 := K9.out
          have c10 := K10.out
          have c11 := K11.out
          have d6 := L6.out
          have d10 := L10.out
          have eq1 := EQ1.out
          have lt1 := LT1.out
          clear K6 K7 K8 K9 K10 K11 L6 L10 T0 T1 T2
          go_wp2_with fail
          clear c6 c7 c8 c9 c10 c11 d6 d10 eq1 lt1
          refine (works_calls _ (HGB.out _ B1.out)).mono ?_
          rintro e w2 ⟨rfl, hb⟩
          have B2 : Hid (Below n0 w w2) := Lib.hid (B1.out.trans (hb.mono (by have := B1.out.size; have := HN0.out; omega)))
          clear hb B1
          go_wp2_with fail
          go_ret
          exact ⟨rfl, by rw [HN0.out]; exact B2.out⟩

theorem valsEq (a b : Int) (hab : a = b) : (cmpB a b 6 = true ∧ cmpB a b 7 = false ∧ cmpB a b 8 = false ∧ cmpB a b 9 = true ∧ cmpB a b 10 = false ∧ cmpB a b 11 = true) ∧ cmpB b a 6 = true ∧ cmpB b a 10 = false := by
  refine ⟨⟨?_, ?_, ?_, ?_, ?_, ?_⟩, ?_, ?_⟩ <;> (simp [cmpB, cmpN] <;> omega)

set_option maxRecDepth 100000 in
set_option maxHeartbeats 8000000 in
theorem walkEq (a b : Int) (hab : a = b) (w : World) (hG : Glob w) :
    Calls Tryd.prog 9 #[.int .i64 a, .int .i64 b] w fun e w' => e = .returned (.bool true) ∧ Below w.heap.size w w' := by
  have HG := Lib.hid hG
  have HV := Lib.hid (valsEq a b hab)
  have eq1 : (a == b) = true := by simp <;> omega
  have lt1 : decide (a < b) = false := by simp <;> omega
  have C1 := Lib.hid (cmp_is a b)
  have C2 := Lib.hid (cmp_is b a)
  obtain ⟨X, hX⟩ : ∃ X, cmpB a b = X := ⟨_, rfl⟩
  obtain ⟨Y, hY⟩ : ∃ Y, cmpB b a = Y := ⟨_, rfl⟩
  rw [hX] at C1 HV
  rw [hY] at C2 HV
  have EQ1 := Lib.hid eq1
  have LT1 := Lib.hid lt1
  clear hG hab hX hY eq1 lt1
  go_enter Tryd.func9, Tryd.ntmps9
  go_wp2_with fail
  have a1 := (Arr.new w X 45).alloc (.cells #[.bool false, .bool false, .bool false, .bool false, .bool false, .bool false, .bool false, .bool false, .bool false, .bool false, .bool false, .bool false, .bool false, .bool false, .bool false, .bool false] 45)
  have a2 := Arr.new (w.alloc (.cells #[.bool false, .bool false, .bool false, .bool false, .bool false, .bool false, .bool false, .bool false, .bool false, .bool false, .bool false, .bool false, .bool false, .bool false, .bool false, .bool false] 45)) Y 45
  rw [World.size_alloc] at a2
  have hb0 : Below w.heap.size w ((w.alloc (.cells #[.bool false, .bool false, .bool false, .bool false, .bool false, .bool false, .bool false, .bool false, .bool false, .bool false, .bool false, .bool false, .bool false, .bool false, .bool false, .bool false] 45)).alloc (.cells #[.bool false, .bool false, .bool false, .bool false, .bool false, .bool false, .bool false, .bool false, .bool false, .bool false, .bool false, .bool false, .bool false, .bool false, .bool false, .bool false] 45)) := ((Below.refl _ w).alloc (Nat.le_refl _) _).alloc (by simp) _
  have hz0 : ((w.alloc (.cells #[.bool false, .bool false, .bool false, .bool false, .bool false, .bool false, .bool false, .bool false, .bool false, .bool false, .bool false, .bool false, .bool false, .bool false, .bool false, .bool false] 45)).alloc (.cells #[.bool false, .bool false, .bool false, .bool false, .bool false, .bool false, .bool false, .bool false, .bool false, .bool false, .bool false, .bool false, .bool false, .bool false, .bool false, .bool false] 45)).heap.size = w.heap.size + 2 := by simp
  generalize (w.alloc (.cells #[.bool false, .bool false, .bool false, .bool false, .bool false, .bool false, .bool false, .bool false, .bool false, .bool false, .bool false, .bool false, .bool false, .bool false, .bool false, .bool false] 45)).alloc (.cells #[.bool false, .bool false, .bool false, .bool false, .bool false, .bool false, .bool false, .bool false, .bool false, .bool false, .bool false, .bool false, .bool false, .bool false, .bool false, .bool false] 45) = w0 at a1 a2 hb0 hz0 ⊢
  generalize hn0 : w.heap.size = n0 at *
  have HN0 := Lib.hid hn0
  have A1 := Lib.hid a1
  have A2 := Lib.hid a2
  have B0 := Lib.hid hb0
  have Z0 := Lib.hid (Nat.le_of_eq hz0.symm)
  clear hn0 a1 a2 hb0 hz0
  have HGB : Hid (∀ W, Below n0 w W → Glob W) := Lib.hid fun W h => by
    rw [← HN0.out] at h
    exact HG.out.below h
  go_loopw [7] (fun i wr => ∃ m : Nat, 6 ≤ m ∧ m ≤ 12 ∧ i = .int .i64 m ∧ Hid (Arr wr n0 X m) ∧ Hid (Arr wr (n0 + 1) Y m) ∧ Hid (Below n0 w wr) ∧ Hid (n0 + 2 ≤ wr.heap.size)) (fun i _ => 12 - (intOf i).toNat)
  case atStart => exact ⟨6, by omega, by omega, rfl, A1, A2, B0, Z0⟩
  case round =>
    obtain ⟨m, hm1, hm2, rfl, hA1, hA2, hB, hZ⟩ := hrel
    clear A1 A2 B0 Z0
    by_cases hlt : m ≤ 11
    · have D1 := Lib.hid (fun W => C1.out m hm1 hlt W)
      have D2 := Lib.hid (fun W => C2.out m hm1 hlt W)
      clear C1 C2 HV EQ1 LT1
      go_wp2_with fail
      refine (D1.out _).mono ?_
      rintro e w1 ⟨rfl, hb⟩
      have E1 := Lib.hid (hA1.out.below hb (by have := hZ.out; omega))
      have E2 := Lib.hid (hA2.out.below hb (by have := hZ.out; omega))
      have E3 := Lib.hid (hB.out.trans (hb.mono (by have := hZ.out; omega)))
      have E4 : Hid (n0 + 2 ≤ w1.heap.size) := Lib.hid (Nat.le_trans hZ.out hb.size)
      clear hb hA1 hA2 hB hZ D1
      go_wp2_with fail
      refine (D2.out _).mono ?_
      rintro e w2 ⟨rfl, hb⟩
      have F1 := Lib.hid (E1.out.below hb (by have := E4.out; omega))
      have F2 := Lib.hid (E2.out.below hb (by have := E4.out; omega))
      have F3 := Lib.hid (E3.out.trans (hb.mono (by have := E4.out; omega)))
      have F4 : Hid (n0 + 2 ≤ w2.heap.size) := Lib.hid (Nat.le_trans E4.out hb.size)
      clear hb E1 E2 E3 E4 D2
      obtain ⟨q1, p1⟩ := F1.out m (by omega)
      obtain ⟨q2, p2⟩ := F2.out m (by omega)
      have G1 := Lib.hid ((F1.out.set hm1 (by omega)).other (q := ⟨n0 + 1, m, none⟩) (show n0 + 1 ≠ n0 by omega) (.bool (Y m)))
      have G2 := Lib.hid ((F2.out.other (q := ⟨n0, m, none⟩) (show n0 ≠ n0 + 1 by omega) (.bool (X m))).set hm1 (by omega))
      have G3 := Lib.hid ((F3.out.setCell (p := ⟨n0, m, none⟩) (Nat.le_refl _) (.bool (X m))).setCell (p := ⟨n0 + 1, m, none⟩) (show n0 ≤ n0 + 1 by omega) (.bool (Y m)))
      have G4 : Hid (n0 + 2 ≤ ((w2.setCell ⟨n0, m, none⟩ (.bool (X m))).setCell ⟨n0 + 1, m, none⟩ (.bool (Y m))).heap.size) := Lib.hid (by simp only [World.setCell]; simpa using F4.out)
      clear F1 F2 F3 F4
      go_wp2_with fail
      go_roundw
      case rel => exact ⟨m + 1, by omega, by omega, by go_num, G1, G2, G3, G4⟩
      case measure => simp [intOf] <;> omega
    · obtain rfl : m = 12 := by omega
      clear hm1 hm2 C1 C2
      obtain ⟨⟨v6, v7, v8, v9, v10, v11⟩, y6, y10⟩ := HV.out
      have c6 := hA1.out.at 6 (by omega) (by omega)
      have c7 := hA1.out.at 7 (by omega) (by omega)
      have c8 := hA1.out.at 8 (by omega) (by omega)
      have c9 := hA1.out.at 9 (by omega) (by omega)
      have c10 := hA1.out.at 10 (by omega) (by omega)
      have c11 := hA1.out.at 11 (by omega) (by omega)
      have d6 := hA2.out.at 6 (by omega) (by omega)
      have d10 := hA2.out.at 10 (by omega) (by omega)
      rw [v6] at c6
      rw [v7] at c7
      rw [v8] at c8
      rw [v9] at c9
      rw [v10] at c10
      rw [v11] at c11
      rw [y6] at d6
      rw [y10] at d10
      clear v6 v7 v8 v9 v10 v11 y6 y10 HV hA1 hA2
      have hz := hZ.out
      have hb1 := hB.out.alloc (by omega) (.cells #[.int .i64 8, .int .i64 6, .int .i64 10] 3)
      have t0 := (Cell.new wr #[.int .i64 8, .int .i64 6, .int .i64 10] 3 0 _ rfl).1
      have t1 := (Cell.new wr #[.int .i64 8, .int .i64 6, .int .i64 10] 3 1 _ rfl).1
      have t2 := (Cell.new wr #[.int .i64 8, .int .i64 6, .int .i64 10] 3 2 _ rfl).1
      have hk := (Below.refl wr.heap.size wr).alloc (Nat.le_refl _) (.cells #[.int .i64 8, .int .i64 6, .int .i64 10] 3)
      replace c6 := (hk.cell (p := ⟨n0, 6, none⟩) (show n0 < wr.heap.size by omega)).trans c6
      replace c7 := (hk.cell (p := ⟨n0, 7, none⟩) (show n0 < wr.heap.size by omega)).trans c7
      replace c8 := (hk.cell (p := ⟨n0, 8, none⟩) (show n0 < wr.heap.size by omega)).trans c8
      replace c9 := (hk.cell (p := ⟨n0, 9, none⟩) (show n0 < wr.heap.size by omega)).trans c9
      replace c10 := (hk.cell (p := ⟨n0, 10, none⟩) (show n0 < wr.heap.size by omega)).trans c10
      replace c11 := (hk.cell (p := ⟨n0, 11, none⟩) (show n0 < wr.heap.size by omega)).trans c11
      replace d6 := (hk.cell (p := ⟨n0 + 1, 6, none⟩) (show n0 + 1 < wr.heap.size by omega)).trans d6
      replace d10 := (hk.cell (p := ⟨n0 + 1, 10, none⟩) (show n0 + 1 < wr.heap.size by omega)).trans d10
      have B1 := Lib.hid hb1
      have K6 := Lib.hid c6
      have K7 := Lib.hid c7
      have K8 := Lib.hid c8
      have K9 := Lib.hid c9
      have K10 := Lib.hid c10
      have K11 := Lib.hid c11
      have L6 := Lib.hid d6
      have L10 := Lib.hid d10
      have T0 := Lib.hid t0
      have T1 := Lib.hid t1
      have T2 := Lib.hid t2
      clear c6 c7 c8 c9 c10 c11 d6 d10 t0 t1 t2 hk hb1 hB hZ hz
      go_wp2_with fail
      generalize wr.alloc (.cells #[.int .i64 8, .int .i64 6, .int .i64 10] 3) = w1 at *
      go_loop [12, 47] (fun n i => (i = .int .i64 0 ∧ n = .int .i64 0) ∨ (i = .int .i64 1 ∧ n = .int .i64 0) ∨ (i = .int .i64 2 ∧ n = .int .i64 1) ∨ (i = .int .i64 3 ∧ n = .int .i64 1)) (fun _ i => 3 - (intOf i).toNat)
      case atStart => exact .inl ⟨rfl, rfl⟩
      case round =>
        rcases hrel with ⟨rfl, rfl⟩ | ⟨rfl, rfl⟩ | ⟨rfl, rfl⟩ | ⟨rfl, rfl⟩
        · have t := T0.out
          have c := K8.out
          go_wp2_with fail
          go_round
          case rel => exact .inr (.inl ⟨rfl, rfl⟩)
          case measure => simp [intOf]
        · have t := T1.out
          have c := K6.out
          go_wp2_with fail
          go_round
          case rel => exact .inr (.inr (.inl ⟨rfl, rfl⟩))
          case measure => simp [intOf]
        · have t := T2.out
          have c := K10.out
          go_wp2_with fail
          go_round
          case rel => exact .inr (.inr (.inr ⟨rfl, rfl⟩))
          case measure => simp [intOf]
        · have c6 := K6.out
          have c7 := K7.out
          have c8 := K8.out
          have c9 := K9.out
          have c10 := K10.out
          have c11 := K11.out
          have d6 := L6.out
          have d10 := L10.out
          have eq1 := EQ1.out
          have lt1 := LT1.out
          clear K6 K7 K8 K9 K10 K11 L6 L10 T0 T1 T2
          go_wp2_with fail
          clear c6 c7 c8 c9 c10 c11 d6 d10 eq1 lt1
          refine (works_calls _ (HGB.out _ B1.out)).mono ?_
          rintro e w2 ⟨rfl, hb⟩
          have B2 : Hid (Below n0 w w2) := Lib.hid (B1.out.trans (hb.mono (by have := B1.out.size; have := HN0.out; omega)))
          clear hb B1
          go_wp2_with fail
          go_ret
          exact ⟨rfl, by rw [HN0.out]; exact B2.out⟩

theorem valsGt (a b : Int) (hab : b < a) : (cmpB a b 6 = false ∧ cmpB a b 7 = true ∧ cmpB a b 8 = false ∧ cmpB a b 9 = false ∧ cmpB a b 10 = true ∧ cmpB a b 11 = true) ∧ cmpB b a 6 = false ∧ cmpB b a 10 = false := by
  refine ⟨⟨?_, ?_, ?_, ?_, ?_, ?_⟩, ?_, ?_⟩ <;> (simp [cmpB, cmpN] <;> omega)

set_option maxRecDepth 100000 in
set_option maxHeartbeats 8000000 in
theorem walkGt (a b : Int) (hab : b < a) (w : World) (hG : Glob w) :
    Calls Tryd.prog 9 #[.int .i64 a, .int .i64 b] w fun e w' => e = .returned (.bool true) ∧ Below w.heap.size w w' := by
  have HG := Lib.hid hG
  have HV := Lib.hid (valsGt a b hab)
  have eq1 : (a == b) = false := by simp <;> omega
  have lt1 : decide (a < b) = false := by simp <;> omega
  have C1 := Lib.hid (cmp_is a b)
  have C2 := Lib.hid (cmp_is b a)
  obtain ⟨X, hX⟩ : ∃ X, cmpB a b = X := ⟨_, rfl⟩
  obtain ⟨Y, hY⟩ : ∃ Y, cmpB b a = Y := ⟨_, rfl⟩
  rw [hX] at C1 HV
  rw [hY] at C2 HV
  have EQ1 := Lib.hid eq1
  have LT1 := Lib.hid lt1
  clear hG hab hX hY eq1 lt1
  go_enter Tryd.func9, Tryd.ntmps9
  go_wp2_with fail
  have a1 := (Arr.new w X 45).alloc (.cells #[.bool false, .bool false, .bool false, .bool false, .bool false, .bool false, .bool false, .bool false, .bool false, .bool false, .bool false, .bool false, .bool false, .bool false, .bool false, .bool false] 45)
  have a2 := Arr.new (w.alloc (.cells #[.bool false, .bool false, .bool false, .bool false, .bool false, .bool false, .bool false, .bool false, .bool false, .bool false, .bool false, .bool false, .bool false, .bool false, .bool false, .bool false] 45)) Y 45
  rw [World.size_alloc] at a2
  have hb0 : Below w.heap.size w ((w.alloc (.cells #[.bool false, .bool false, .bool false, .bool false, .bool false, .bool false, .bool false, .bool false, .bool false, .bool false, .bool false, .bool false, .bool false, .bool false, .bool false, .bool false] 45)).alloc (.cells #[.bool false, .bool false, .bool false, .bool false, .bool false, .bool false, .bool false, .bool false, .bool false, .bool false, .bool false, .bool false, .bool false, .bool false, .bool false, .bool false] 45)) := ((Below.refl _ w).alloc (Nat.le_refl _) _).alloc (by simp) _
  have hz0 : ((w.alloc (.cells #[.bool false, .bool false, .bool false, .bool false, .bool false, .bool false, .bool false, .bool false, .bool false, .bool false, .bool false, .bool false, .bool false, .bool false, .bool false, .bool false] 45)).alloc (.cells #[.bool false, .bool false, .bool false, .bool false, .bool false, .bool false, .bool false, .bool false, .bool false, .bool false, .bool false, .bool false, .bool false, .bool false, .bool false, .bool false] 45)).heap.size = w.heap.size + 2 := by simp
  generalize (w.alloc (.cells #[.bool false, .bool false, .bool false, .bool false, .bool false, .bool false, .bool false, .bool false, .bool false, .bool false, .bool false, .bool false, .bool false, .bool false, .bool false, .bool false] 45)).alloc (.cells #[.bool false, .bool false, .bool false, .bool false, .bool false, .bool false, .bool false, .bool false, .bool false, .bool false, .bool false, .bool false, .bool false, .bool false, .bool false, .bool false] 45) = w0 at a1 a2 hb0 hz0 ⊢
  generalize hn0 : w.heap.size = n0 at *
  have HN0 := Lib.hid hn0
  have A1 := Lib.hid a1
  have A2 := Lib.hid a2
  have B0 := Lib.hid hb0
  have Z0 := Lib.hid (Nat.le_of_eq hz0.symm)
  clear hn0 a1 a2 hb0 hz0
  have HGB : Hid (∀ W, Below n0 w W → Glob W) := Lib.hid fun W h => by
    rw [← HN0.out] at h
    exact HG.out.below h
  go_loopw [7] (fun i wr => ∃ m : Nat, 6 ≤ m ∧ m ≤ 12 ∧ i = .int .i64 m ∧ Hid (Arr wr n0 X m) ∧ Hid (Arr wr (n0 + 1) Y m) ∧ Hid (Below n0 w wr) ∧ Hid (n0 + 2 ≤ wr.heap.size)) (fun i _ => 12 - (intOf i).toNat)
  case atStart => exact ⟨6, by omega, by omega, rfl, A1, A2, B0, Z0⟩
  case round =>
    obtain ⟨m, hm1, hm2, rfl, hA1, hA2, hB, hZ⟩ := hrel
    clear A1 A2 B0 Z0
    by_cases hlt : m ≤ 11
    · have D1 := Lib.hid (fun W => C1.out m hm1 hlt W)
      have D2 := Lib.hid (fun W => C2.out m hm1 hlt W)
      clear C1 C2 HV EQ1 LT1
      go_wp2_with fail
      refine (D1.out _).mono ?_
      rintro e w1 ⟨rfl, hb⟩
      have E1 := Lib.hid (hA1.out.below hb (by have := hZ.out; omega))
      have E2 := Lib.hid (hA2.out.below hb (by have := hZ.out; omega))
      have E3 := Lib.hid (hB.out.trans (hb.mono (by have := hZ.out; omega)))
      have E4 : Hid (n0 + 2 ≤ w1.heap.size) := Lib.hid (Nat.le_trans hZ.out hb.size)
      clear hb hA1 hA2 hB hZ D1
      go_wp2_with fail
      refine (D2.out _).mono ?_
      rintro e w2 ⟨rfl, hb⟩
      have F1 := Lib.hid (E1.out.below hb (by have := E4.out; omega))
      have F2 := Lib.hid (E2.out.below hb (by have := E4.out; omega))
      have F3 := Lib.hid (E3.out.trans (hb.mono (by have := E4.out; omega)))
      have F4 : Hid (n0 + 2 ≤ w2.heap.size) := Lib.hid (Nat.le_trans E4.out hb.size)
      clear hb E1 E2 E3 E4 D2
      obtain ⟨q1, p1⟩ := F1.out m (by omega)
      obtain ⟨q2, p2⟩ := F2.out m (by omega)
      have G1 := Lib.hid ((F1.out.set hm1 (by omega)).other (q := ⟨n0 + 1, m, none⟩) (show n0 + 1 ≠ n0 by omega) (.bool (Y m)))
      have G2 := Lib.hid ((F2.out.other (q := ⟨n0, m, none⟩) (show n0 ≠ n0 + 1 by omega) (.bool (X m))).set hm1 (by omega))
      have G3 := Lib.hid ((F3.out.setCell (p := ⟨n0, m, none⟩) (Nat.le_refl _) (.bool (X m))).setCell (p := ⟨n0 + 1, m, none⟩) (show n0 ≤ n0 + 1 by omega) (.bool (Y m)))
      have G4 : Hid (n0 + 2 ≤ ((w2.setCell ⟨n0, m, none⟩ (.bool (X m))).setCell ⟨n0 + 1, m, none⟩ (.bool (Y m))).heap.size) := Lib.hid (by simp only [World.setCell]; simpa using F4.out)
      clear F1 F2 F3 F4
      go_wp2_with fail
      go_roundw
      case rel => exact ⟨m + 1, by omega, by omega, by go_num, G1, G2, G3, G4⟩
      case measure => simp [intOf] <;> omega
    · obtain rfl : m = 12 := by omega
      clear hm1 hm2 C1 C2
      obtain ⟨⟨v6, v7, v8, v9, v10, v11⟩, y6, y10⟩ := HV.out
      have c6 := hA1.out.at 6 (by omega) (by omega)
      have c7 := hA1.out.at 7 (by omega) (by omega)
      have c8 := hA1.out.at 8 (by omega) (by omega)
      have c9 := hA1.out.at 9 (by omega) (by omega)
      have c10 := hA1.out.at 10 (by omega) (by omega)
      have c11 := hA1.out.at 11 (by omega) (by omega)
      have d6 := hA2.out.at 6 (by omega) (by omega)
      have d10 := hA2.out.at 10 (by omega) (by omega)
      rw [v6] at c6
      rw [v7] at c7
      rw [v8] at c8
      rw [v9] at c9
      rw [v10] at c10
      rw [v11] at c11
      rw [y6] at d6
      rw [y10] at d10
      clear v6 v7 v8 v9 v10 v11 y6 y10 HV hA1 hA2
      have hz := hZ.out
      have hb1 := hB.out.alloc (by omega) (.cells #[.int .i64 8, .int .i64 6, .int .i64 10] 3)
      have t0 := (Cell.new wr #[.int .i64 8, .int .i64 6, .int .i64 10] 3 0 _ rfl).1
      have t1 := (Cell.new wr #[.int .i64 8, .int .i64 6, .int .i64 10] 3 1 _ rfl).1
      have t2 := (Cell.new wr #[.int .i64 8, .int .i64 6, .int .i64 10] 3 2 _ rfl).1
      have hk := (Below.refl wr.heap.size wr).alloc (Nat.le_refl _) (.cells #[.int .i64 8, .int .i64 6, .int .i64 10] 3)
      replace c6 := (hk.cell (p := ⟨n0, 6, none⟩) (show n0 < wr.heap.size by omega)).trans c6
      replace c7 := (hk.cell (p := ⟨n0, 7, none⟩) (show n0 < wr.heap.size by omega)).trans c7
      replace c8 := (hk.cell (p := ⟨n0, 8, none⟩) (show n0 < wr.heap.size by omega)).trans c8
      replace c9 := (hk.cell (p := ⟨n0, 9, none⟩) (show n0 < wr.heap.size by omega)).trans c9
      replace c10 := (hk.cell (p := ⟨n0, 10, none⟩) (show n0 < wr.heap.size by omega)).trans c10
      replace c11 := (hk.cell (p := ⟨n0, 11, none⟩) (show n0 < wr.heap.size by omega)).trans c11
      replace d6 := (hk.cell (p := ⟨n0 + 1, 6, none⟩) (show n0 + 1 < wr.heap.size by omega)).trans d6
      replace d10 := (hk.cell (p := ⟨n0 + 1, 10, none⟩) (show n0 + 1 < wr.heap.size by omega)).trans d10
      have B1 := Lib.hid hb1
      have K6 := Lib.hid c6
      have K7 := Lib.hid c7
      have K8 := Lib.hid c8
      have K9 := Lib.hid c9
      have K10 := Lib.hid c10
      have K11 := Lib.hid c11
      have L6 := Lib.hid d6
      have L10 := Lib.hid d10
      have T0 := Lib.hid t0
      have T1 := Lib.hid t1
      have T2 := Lib.hid t2
      clear c6 c7 c8 c9 c10 c11 d6 d10 t0 t1 t2 hk hb1 hB hZ hz
      go_wp2_with fail
      generalize wr.alloc (.cells #[.int .i64 8, .int .i64 6, .int .i64 10] 3) = w1 at *
      go_loop [12, 47] (fun n i => (i = .int .i64 0 ∧ n = .int .i64 0) ∨ (i = .int .i64 1 ∧ n = .int .i64 0) ∨ (i = .int .i64 2 ∧ n = .int .i64 0) ∨ (i = .int .i64 3 ∧ n = .int .i64 1)) (fun _ i => 3 - (intOf i).toNat)
      case atStart => exact .inl ⟨rfl, rfl⟩
      case round =>
        rcases hrel with ⟨rfl, rfl⟩ | ⟨rfl, rfl⟩ | ⟨rfl, rfl⟩ | ⟨rfl, rfl⟩
        · have t := T0.out
          have c := K8.out
          go_wp2_with fail
          go_round
          case rel => exact .inr (.inl ⟨rfl, rfl⟩)
          case measure => simp [intOf]
        · have t := T1.out
          have c := K6.out
          go_wp2_with fail
          go_round
          case rel => exact .inr (.inr (.inl ⟨rfl, rfl⟩))
          case measure => simp [intOf]
        · have t := T2.out
          have c := K10.out
          go_wp2_with fail
          go_round
          case rel => exact .inr (.inr (.inr ⟨rfl, rfl⟩))
          case measure => simp [intOf]
        · have c6 := K6.out
          have c7 := K7.out
          have c8 := K8.out
          have c9 := K9.out
          have c10 := K10.out
          have c11 := K11.out
          have d6 := L6.out
          have d10 := L10.out
          have eq1 := EQ1.out
          have lt1 := LT1.out
          clear K6 K7 K8 K9 K10 K11 L6 L10 T0 T1 T2
          go_wp2_with fail
          clear c6 c7 c8 c9 c10 c11 d6 d10 eq1 lt1
          refine (works_calls _ (HGB.out _ B1.out)).mono ?_
          rintro e w2 ⟨rfl, hb⟩
          have B2 : Hid (Below n0 w w2) := Lib.hid (B1.out.trans (hb.mono (by have := B1.out.size; have := HN0.out; omega)))
          clear hb B1
          go_wp2_with fail
          go_ret
          exact ⟨rfl, by rw [HN0.out]; exact B2.out⟩

theorem law (a b : Int) (_h1 : -9223372036854775808 ≤ a) (_h2 : a ≤ 9223372036854775807) (_h3 : -9223372036854775808 ≤ b) (_h4 : b ≤ 9223372036854775807) (w : World) (hG : Glob w) :
    Calls Tryd.prog 9 #[.int .i64 a, .int .i64 b] w fun e w' => e = .returned (.bool true) ∧ Below w.heap.size w w' := by
  by_cases h1 : a < b
  · exact walkLt a b h1 w hG
  · by_cases h2 : a = b
    · exact walkEq a b h2 w hG
    · exact walkGt a b (by omega) w hG
end Go.Proofs.YtfnobkcnopmfnaaDoor.order
