/-
  rewindlaw01.PlaceStrings returns true for every two places and every text: the law's walk.
-/
import Derived.Test.YthjpcfohpbbacaaDoorRefParse
import Derived.Test.YthjpcfohpbbacaaDoorWorks
import Derived.Test.YthjpcfohpbbacaaDoorFrame
namespace Go.Proofs.YthjpcfohpbbacaaDoor.strings
open Go Go.RowKit Go.Proofs.YthjpcfohpbbacaaDoor Go.Sort

theorem encS_is (k : Int) (t : Option Bytes) : ∃ b n, encS t = .string b ∧ encE k t = .int .i64 n := by
  cases t
  · exact ⟨_, _, rfl, rfl⟩
  · exact ⟨_, _, rfl, rfl⟩
theorem encP_is (k : Int) (x : Option (Int × Int)) : ∃ a b n, encP x = .agg #[.int .i64 a, .int .i64 b] ∧ encE k x = .int .i64 n := by
  cases x
  · exact ⟨_, _, _, rfl, rfl⟩
  · exact ⟨_, _, _, rfl, rfl⟩

set_option maxRecDepth 100000 in
set_option maxHeartbeats 1000000 in
theorem walk_long (a0 a1 b0 b1 : Int) (s : ByteArray) (hs : 100 < s.size) (hm : s.size ≤ 9223372036854775807) (w : World) (hG : Glob w) :
    Calls Tryd.prog 4 #[.agg #[.int .i64 a0, .int .i64 a1], .agg #[.int .i64 b0, .int .i64 b1], .string s] w fun e w' => e = .returned (.bool true) ∧ Below w.heap.size w w' := by
  have HG := Lib.hid hG
  clear hG
  have hb0 : Below w.heap.size w ((w.alloc (.cells #[.int .i64 a0, .int .i64 a1] 24)).alloc (.cells #[.int .i64 b0, .int .i64 b1] 24)) :=
    ((Below.refl _ w).alloc (Nat.le_refl _) _).alloc (by simp) _
  have HB := Lib.hid hb0
  clear hb0
  go_enter Tryd.func4, Tryd.ntmps4
  go_wp2_with fail
  refine (works_calls _ (HG.out.below HB.out)).mono ?_
  clear HG
  rintro e w' ⟨rfl, hb⟩
  have B5 := Lib.hid (after HB.out hb)
  clear hb HB
  go_wp2_with fail
  go_ret
  exact ⟨rfl, B5.out⟩

set_option maxRecDepth 100000 in
set_option maxHeartbeats 4000000 in
theorem walk (a0 a1 b0 b1 : Int) (s : ByteArray) (hs : s.size ≤ 100) (T : ByteArray) (te : Int) (c0 c1 pe m : Int)
    (hT : ∀ W, Glob W → Calls Tryd.prog 20 #[.agg #[.int .i64 a0, .int .i64 a1]] W fun e w' => e = .returned (.tuple #[.string T, .int .i64 te]) ∧ Below W.heap.size W w')
    (hU : ∀ W, Calls Tryd.prog 21 #[.agg #[.int .i64 a0, .int .i64 a1]] W fun e w' => e = .returned (.tuple #[.string T, .int .i64 te]) ∧ Below W.heap.size W w')
    (hP : ∀ W, Glob W → Calls Tryd.prog 22 #[.string s] W fun e w' => e = .returned (.tuple #[.agg #[.int .i64 c0, .int .i64 c1], .int .i64 pe]) ∧ Below W.heap.size W w')
    (hQ : ∀ W, Calls Tryd.prog 23 #[.string s] W fun e w' => e = .returned (.tuple #[.agg #[.int .i64 c0, .int .i64 c1], .int .i64 pe]) ∧ Below W.heap.size W w')
    (hC : ∀ W, Calls Tryd.prog 24 #[.agg #[.int .i64 a0, .int .i64 a1], .agg #[.int .i64 b0, .int .i64 b1]] W fun e w' => e = .returned (.int .i64 m) ∧ Below W.heap.size W w')
    (hD : ∀ W, Calls Tryd.prog 25 #[.agg #[.int .i64 a0, .int .i64 a1], .agg #[.int .i64 b0, .int .i64 b1]] W fun e w' => e = .returned (.int .i64 m) ∧ Below W.heap.size W w')
    (w : World) (hG : Glob w) :
    Calls Tryd.prog 4 #[.agg #[.int .i64 a0, .int .i64 a1], .agg #[.int .i64 b0, .int .i64 b1], .string s] w fun e w' => e = .returned (.bool true) ∧ Below w.heap.size w w' := by
  have HG := Lib.hid hG
  have HT := Lib.hid hT
  have HU := Lib.hid hU
  have HP := Lib.hid hP
  have HQ := Lib.hid hQ
  have HC := Lib.hid hC
  have HD := Lib.hid hD
  clear hG hT hU hP hQ hC hD
  go_enter Tryd.func4, Tryd.ntmps4
  have B0 := Lib.hid (show Below w.heap.size w ((w.alloc (.cells #[.int .i64 a0, .int .i64 a1] 24)).alloc (.cells #[.int .i64 b0, .int .i64 b1] 24)) from
    ((Below.refl _ w).alloc (Nat.le_refl _) _).alloc (by simp) _)
  have k0 := ((Cell.new w #[.int .i64 a0, .int .i64 a1] 24 0 _ rfl).alloc (.cells #[.int .i64 b0, .int .i64 b1] 24)).1
  have k1 := ((Cell.new w #[.int .i64 a0, .int .i64 a1] 24 1 _ rfl).alloc (.cells #[.int .i64 b0, .int .i64 b1] 24)).1
  have k2 := (Cell.new (w.alloc (.cells #[.int .i64 a0, .int .i64 a1] 24)) #[.int .i64 b0, .int .i64 b1] 24 0 _ rfl).1
  have k3 := (Cell.new (w.alloc (.cells #[.int .i64 a0, .int .i64 a1] 24)) #[.int .i64 b0, .int .i64 b1] 24 1 _ rfl).1
  simp only [World.size_alloc] at k2 k3
  go_wp2_with fail
  generalize (w.alloc (.cells #[.int .i64 a0, .int .i64 a1] 24)).alloc (.cells #[.int .i64 b0, .int .i64 b1] 24) = w1 at *
  refine (HT.out _ (HG.out.below B0.out)).mono ?_
  clear HT
  rintro e w2 ⟨rfl, hb⟩
  have B2 := Lib.hid (after B0.out hb)
  have k0 := (hb.cell (World.block_lt_of_cell? _ _ k0)).trans k0
  have k1 := (hb.cell (World.block_lt_of_cell? _ _ k1)).trans k1
  have k2 := (hb.cell (World.block_lt_of_cell? _ _ k2)).trans k2
  have k3 := (hb.cell (World.block_lt_of_cell? _ _ k3)).trans k3
  clear hb B0
  go_wp2_with fail
  refine (HU.out _).mono ?_
  clear HU
  rintro e w3 ⟨rfl, hb⟩
  have B3 := Lib.hid (after B2.out hb)
  have k0 := (hb.cell (World.block_lt_of_cell? _ _ k0)).trans k0
  have k1 := (hb.cell (World.block_lt_of_cell? _ _ k1)).trans k1
  have k2 := (hb.cell (World.block_lt_of_cell? _ _ k2)).trans k2
  have k3 := (hb.cell (World.block_lt_of_cell? _ _ k3)).trans k3
  clear hb B2
  go_wp2_with fail
  refine (HP.out _ (HG.out.below B3.out)).mono ?_
  clear HP
  rintro e w4 ⟨rfl, hb⟩
  have B4 := Lib.hid (after B3.out hb)
  have k0 := (hb.cell (World.block_lt_of_cell? _ _ k0)).trans k0
  have k1 := (hb.cell (World.block_lt_of_cell? _ _ k1)).trans k1
  have k2 := (hb.cell (World.block_lt_of_cell? _ _ k2)).trans k2
  have k3 := (hb.cell (World.block_lt_of_cell? _ _ k3)).trans k3
  clear hb B3
  have C4 := Lib.hid (B4.out.alloc B4.out.size (.cells #[.int .i64 c0, .int .i64 c1] 24))
  have k0 := Lib.hid (((World.cell?_alloc_lt w4 (.cells #[.int .i64 c0, .int .i64 c1] 24) _ (World.block_lt_of_cell? _ _ k0)).trans k0))
  have k1 := Lib.hid (((World.cell?_alloc_lt w4 (.cells #[.int .i64 c0, .int .i64 c1] 24) _ (World.block_lt_of_cell? _ _ k1)).trans k1))
  have k2 := Lib.hid (((World.cell?_alloc_lt w4 (.cells #[.int .i64 c0, .int .i64 c1] 24) _ (World.block_lt_of_cell? _ _ k2)).trans k2))
  have k3 := Lib.hid (((World.cell?_alloc_lt w4 (.cells #[.int .i64 c0, .int .i64 c1] 24) _ (World.block_lt_of_cell? _ _ k3)).trans k3))
  have d0 := Lib.hid (Cell.new w4 #[.int .i64 c0, .int .i64 c1] 24 0 _ rfl).1
  have d1 := Lib.hid (Cell.new w4 #[.int .i64 c0, .int .i64 c1] 24 1 _ rfl).1
  clear B4
  go_wp2_with fail
  generalize hw5 : w4.alloc (.cells #[.int .i64 c0, .int .i64 c1] 24) = w5 at *
  refine (HQ.out _).mono ?_
  clear HQ
  rintro e w6 ⟨rfl, hb⟩
  have B6 := Lib.hid (after C4.out hb)
  have k0 := ((hb.cell (World.block_lt_of_cell? _ _ k0.out)).trans k0.out)
  have k1 := ((hb.cell (World.block_lt_of_cell? _ _ k1.out)).trans k1.out)
  have k2 := ((hb.cell (World.block_lt_of_cell? _ _ k2.out)).trans k2.out)
  have k3 := ((hb.cell (World.block_lt_of_cell? _ _ k3.out)).trans k3.out)
  have d0 := ((hb.cell (World.block_lt_of_cell? _ _ d0.out)).trans d0.out)
  have d1 := ((hb.cell (World.block_lt_of_cell? _ _ d1.out)).trans d1.out)
  clear hb C4 hw5
  have C6 := Lib.hid (B6.out.alloc B6.out.size (.cells #[.int .i64 c0, .int .i64 c1] 24))
  have k0 := Lib.hid (((World.cell?_alloc_lt w6 (.cells #[.int .i64 c0, .int .i64 c1] 24) _ (World.block_lt_of_cell? _ _ k0)).trans k0))
  have k1 := Lib.hid (((World.cell?_alloc_lt w6 (.cells #[.int .i64 c0, .int .i64 c1] 24) _ (World.block_lt_of_cell? _ _ k1)).trans k1))
  have k2 := Lib.hid (((World.cell?_alloc_lt w6 (.cells #[.int .i64 c0, .int .i64 c1] 24) _ (World.block_lt_of_cell? _ _ k2)).trans k2))
  have k3 := Lib.hid (((World.cell?_alloc_lt w6 (.cells #[.int .i64 c0, .int .i64 c1] 24) _ (World.block_lt_of_cell? _ _ k3)).trans k3))
  have d0 := Lib.hid (((World.cell?_alloc_lt w6 (.cells #[.int .i64 c0, .int .i64 c1] 24) _ (World.block_lt_of_cell? _ _ d0)).trans d0))
  have d1 := Lib.hid (((World.cell?_alloc_lt w6 (.cells #[.int .i64 c0, .int .i64 c1] 24) _ (World.block_lt_of_cell? _ _ d1)).trans d1))
  have f0 := Lib.hid (Cell.new w6 #[.int .i64 c0, .int .i64 c1] 24 0 _ rfl).1
  have f1 := Lib.hid (Cell.new w6 #[.int .i64 c0, .int .i64 c1] 24 1 _ rfl).1
  clear B6
  go_wp2_with fail
  generalize w6.alloc (.cells #[.int .i64 c0, .int .i64 c1] 24) = w7 at *
  have hG7 := HG.out.below C6.out
  clear HG
  have cC := fun d os => Calls.regrown_of (d := d) (os := os) (HC.out (grow (redrawn w7 d) os))
  have cD := fun d os => Calls.regrown_of (d := d) (os := os) (HD.out (grow (redrawn w7 d) os))
  have cW := fun d os => Calls.regrown_of (d := d) (os := os) (works_calls (grow (redrawn w7 d) os) (hG7.below (below_regrown _ d os)))
  clear hG7 HC HD
  have k0 := fun d os => cell_regrown k0.out d os
  have k1 := fun d os => cell_regrown k1.out d os
  have k2 := fun d os => cell_regrown k2.out d os
  have k3 := fun d os => cell_regrown k3.out d os
  have d0 := fun d os => cell_regrown d0.out d os
  have d1 := fun d os => cell_regrown d1.out d os
  have f0 := fun d os => cell_regrown f0.out d os
  have f1 := fun d os => cell_regrown f1.out d os
  refine wp_region_quiet_below (by kernel_rfl) (by kernel_rfl) ?_
  repeat (quiet_step (first | with_reducible exact cC _ _ | with_reducible exact cD _ _ | with_reducible exact cW _ _))
  refine wpQuiet_nil ?_
  intro _ hw'
  obtain ⟨⟨dq, osq⟩, hw''⟩ := hw'
  subst hw''
  go_wp2_with fail
  go_ret
  exact ⟨rfl, C6.out.trans ((below_regrown w7 dq osq).mono C6.out.size)⟩

theorem law (a0 a1 b0 b1 : Int) (s : ByteArray) (_ : -9223372036854775808 ≤ a0) (ha0 : a0 ≤ 9223372036854775807) (_ : -9223372036854775808 ≤ a1) (ha1 : a1 ≤ 9223372036854775807)
    (_ : -9223372036854775808 ≤ b0) (_ : b0 ≤ 9223372036854775807) (_ : -9223372036854775808 ≤ b1) (_ : b1 ≤ 9223372036854775807) (hm : s.size ≤ 9223372036854775807) (w : World) (hG : Glob w) :
    Calls Tryd.prog 4 #[.agg #[.int .i64 a0, .int .i64 a1], .agg #[.int .i64 b0, .int .i64 b1], .string s] w fun e w' => e = .returned (.bool true) ∧ Below w.heap.size w w' := by
  by_cases hs : 100 < s.size
  · exact walk_long a0 a1 b0 b1 s hs hm w hG
  · have hT := fun W hG => text_calls a0 a1 ha0 ha1 W hG
    have hU := fun W => text_ref a0 a1 ha0 ha1 W
    have hP := fun W hG => parse_calls s (by omega) W hG
    have hQ := fun W => parse_ref s (by omega) W
    obtain ⟨T, te, e1, e2⟩ := encS_is 2 (placeText a0 a1)
    obtain ⟨c0, c1, pe, e3, e4⟩ := encP_is 7 (placeParse s.data.toList)
    rw [e1, e2] at hT hU
    rw [e3, e4] at hP hQ
    exact walk a0 a1 b0 b1 s (by omega) T te c0 c1 pe _ hT hU hP hQ (fun W => compare_calls a0 a1 b0 b1 W) (fun W => compare_ref a0 a1 b0 b1 W) w hG
end Go.Proofs.YthjpcfohpbbacaaDoor.strings
