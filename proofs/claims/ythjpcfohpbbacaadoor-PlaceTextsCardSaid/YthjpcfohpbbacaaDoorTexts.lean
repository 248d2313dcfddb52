/-
  rewindlaw01.PlaceTexts returns true for every text and all numbers: the law's walk.
-/
import Derived.Test.YthjpcfohpbbacaaDoorRefOf
import Derived.Test.YthjpcfohpbbacaaDoorRefOffset
import Derived.Test.YthjpcfohpbbacaaDoorRefLines
import Derived.Test.YthjpcfohpbbacaaDoorWorks
import Derived.Test.YthjpcfohpbbacaaDoorFrame
namespace Go.Proofs.YthjpcfohpbbacaaDoor.texts
open Go Go.RowKit Go.Proofs.YthjpcfohpbbacaaDoor Go.Sort

theorem encP_is (k : Int) (x : Option (Int × Int)) : ∃ a b n, encP x = .agg #[.int .i64 a, .int .i64 b] ∧ encE k x = .int .i64 n := by
  cases x
  · exact ⟨_, _, _, rfl, rfl⟩
  · exact ⟨_, _, _, rfl, rfl⟩
theorem encS_is (k : Int) (t : Option Bytes) : ∃ b n, encS t = .string b ∧ encE k t = .int .i64 n := by
  cases t
  · exact ⟨_, _, rfl, rfl⟩
  · exact ⟨_, _, rfl, rfl⟩
theorem encI_is (k : Int) (t : Option Int) : ∃ b n, encI t = .int .i64 b ∧ encE k t = .int .i64 n := by
  cases t
  · exact ⟨_, _, rfl, rfl⟩
  · exact ⟨_, _, rfl, rfl⟩

set_option maxRecDepth 100000 in
set_option maxHeartbeats 1000000 in
theorem walk_long (s : ByteArray) (o l c : Int) (hs : 1000 < s.size) (hm : s.size ≤ 9223372036854775807) (w : World) (hG : Glob w) :
    Calls Tryd.prog 3 #[.string s, .int .i64 o, .int .i64 l, .int .i64 c] w fun e w' => e = .returned (.bool true) ∧ Below w.heap.size w w' := by
  have HG := Lib.hid hG
  clear hG
  go_enter Tryd.func3, Tryd.ntmps3
  go_wp2_with fail
  refine (works_calls _ HG.out).mono ?_
  clear HG
  rintro e w' ⟨rfl, hb⟩
  go_wp2_with fail
  go_ret
  exact ⟨rfl, hb⟩

set_option maxRecDepth 100000 in
set_option maxHeartbeats 4000000 in
theorem walk (s : ByteArray) (o l c : Int) (hs : s.size ≤ 1000) (a0 a1 ae b be : Int) (X : ByteArray) (xe n : Int)
    (hA : ∀ W, Calls Tryd.prog 12 #[.string s, .int .i64 o] W fun e w' => e = .returned (.tuple #[.agg #[.int .i64 a0, .int .i64 a1], .int .i64 ae]) ∧ Below W.heap.size W w')
    (hB : ∀ W, Calls Tryd.prog 13 #[.string s, .int .i64 o] W fun e w' => e = .returned (.tuple #[.agg #[.int .i64 a0, .int .i64 a1], .int .i64 ae]) ∧ Below W.heap.size W w')
    (hC : ∀ W, Calls Tryd.prog 14 #[.string s, .agg #[.int .i64 l, .int .i64 c]] W fun e w' => e = .returned (.tuple #[.int .i64 b, .int .i64 be]) ∧ Below W.heap.size W w')
    (hD : ∀ W, Calls Tryd.prog 15 #[.string s, .agg #[.int .i64 l, .int .i64 c]] W fun e w' => e = .returned (.tuple #[.int .i64 b, .int .i64 be]) ∧ Below W.heap.size W w')
    (hX : ∀ W, Calls Tryd.prog 16 #[.string s, .int .i64 l] W fun e w' => e = .returned (.tuple #[.string X, .int .i64 xe]) ∧ Below W.heap.size W w')
    (hY : ∀ W, Calls Tryd.prog 17 #[.string s, .int .i64 l] W fun e w' => e = .returned (.tuple #[.string X, .int .i64 xe]) ∧ Below W.heap.size W w')
    (hN : ∀ W, Calls Tryd.prog 18 #[.string s] W fun e w' => e = .returned (.int .i64 n) ∧ Below W.heap.size W w')
    (hM : ∀ W, Calls Tryd.prog 19 #[.string s] W fun e w' => e = .returned (.int .i64 n) ∧ Below W.heap.size W w')
    (w : World) (hG : Glob w) :
    Calls Tryd.prog 3 #[.string s, .int .i64 o, .int .i64 l, .int .i64 c] w fun e w' => e = .returned (.bool true) ∧ Below w.heap.size w w' := by
  have HG := Lib.hid hG
  have HA := Lib.hid hA
  have HB := Lib.hid hB
  have HC := Lib.hid hC
  have HD := Lib.hid hD
  have HX := Lib.hid hX
  have HY := Lib.hid hY
  have HN := Lib.hid hN
  have HM := Lib.hid hM
  clear hG hA hB hC hD hX hY hN hM
  go_enter Tryd.func3, Tryd.ntmps3
  go_wp2_with fail
  refine (HA.out _).mono ?_
  clear HA
  rintro e w1 ⟨rfl, hb⟩
  have B1 := Lib.hid hb
  clear hb
  have C1 := Lib.hid (B1.out.alloc B1.out.size (.cells #[.int .i64 a0, .int .i64 a1] 24))
  have d0 := Lib.hid (Cell.new w1 #[.int .i64 a0, .int .i64 a1] 24 0 _ rfl).1
  have d1 := Lib.hid (Cell.new w1 #[.int .i64 a0, .int .i64 a1] 24 1 _ rfl).1
  clear B1
  go_wp2_with fail
  generalize hw5 : w1.alloc (.cells #[.int .i64 a0, .int .i64 a1] 24) = w2 at *
  refine (HB.out _).mono ?_
  clear HB
  rintro e w3 ⟨rfl, hb⟩
  have B3 := Lib.hid (after C1.out hb)
  have d0 := ((hb.cell (World.block_lt_of_cell? _ _ d0.out)).trans d0.out)
  have d1 := ((hb.cell (World.block_lt_of_cell? _ _ d1.out)).trans d1.out)
  clear hb C1 hw5
  have C3 := Lib.hid (B3.out.alloc B3.out.size (.cells #[.int .i64 a0, .int .i64 a1] 24))
  have d0 := Lib.hid (((World.cell?_alloc_lt w3 (.cells #[.int .i64 a0, .int .i64 a1] 24) _ (World.block_lt_of_cell? _ _ d0)).trans d0))
  have d1 := Lib.hid (((World.cell?_alloc_lt w3 (.cells #[.int .i64 a0, .int .i64 a1] 24) _ (World.block_lt_of_cell? _ _ d1)).trans d1))
  have f0 := Lib.hid (Cell.new w3 #[.int .i64 a0, .int .i64 a1] 24 0 _ rfl).1
  have f1 := Lib.hid (Cell.new w3 #[.int .i64 a0, .int .i64 a1] 24 1 _ rfl).1
  clear B3
  go_wp2_with fail
  generalize hw5 : w3.alloc (.cells #[.int .i64 a0, .int .i64 a1] 24) = w4 at *
  refine (HC.out _).mono ?_
  clear HC
  rintro e w5 ⟨rfl, hb⟩
  have B5 := Lib.hid (after C3.out hb)
  have d0 := Lib.hid ((hb.cell (World.block_lt_of_cell? _ _ d0.out)).trans d0.out)
  have d1 := Lib.hid ((hb.cell (World.block_lt_of_cell? _ _ d1.out)).trans d1.out)
  have f0 := Lib.hid ((hb.cell (World.block_lt_of_cell? _ _ f0.out)).trans f0.out)
  have f1 := Lib.hid ((hb.cell (World.block_lt_of_cell? _ _ f1.out)).trans f1.out)
  clear hb C3 hw5
  go_wp2_with fail
  refine (HD.out _).mono ?_
  clear HD
  rintro e w6 ⟨rfl, hb⟩
  have B6 := Lib.hid (after B5.out hb)
  have d0 := Lib.hid ((hb.cell (World.block_lt_of_cell? _ _ d0.out)).trans d0.out)
  have d1 := Lib.hid ((hb.cell (World.block_lt_of_cell? _ _ d1.out)).trans d1.out)
  have f0 := Lib.hid ((hb.cell (World.block_lt_of_cell? _ _ f0.out)).trans f0.out)
  have f1 := Lib.hid ((hb.cell (World.block_lt_of_cell? _ _ f1.out)).trans f1.out)
  clear hb B5
  go_wp2_with fail
  refine (HX.out _).mono ?_
  clear HX
  rintro e w7 ⟨rfl, hb⟩
  have B7 := Lib.hid (after B6.out hb)
  have d0 := Lib.hid ((hb.cell (World.block_lt_of_cell? _ _ d0.out)).trans d0.out)
  have d1 := Lib.hid ((hb.cell (World.block_lt_of_cell? _ _ d1.out)).trans d1.out)
  have f0 := Lib.hid ((hb.cell (World.block_lt_of_cell? _ _ f0.out)).trans f0.out)
  have f1 := Lib.hid ((hb.cell (World.block_lt_of_cell? _ _ f1.out)).trans f1.out)
  clear hb B6
  go_wp2_with fail
  refine (HY.out _).mono ?_
  clear HY
  rintro e w8 ⟨rfl, hb⟩
  have B8 := Lib.hid (after B7.out hb)
  have d0 := Lib.hid ((hb.cell (World.block_lt_of_cell? _ _ d0.out)).trans d0.out)
  have d1 := Lib.hid ((hb.cell (World.block_lt_of_cell? _ _ d1.out)).trans d1.out)
  have f0 := Lib.hid ((hb.cell (World.block_lt_of_cell? _ _ f0.out)).trans f0.out)
  have f1 := Lib.hid ((hb.cell (World.block_lt_of_cell? _ _ f1.out)).trans f1.out)
  clear hb B7
  have d0 := d0.out
  have d1 := d1.out
  have f0 := f0.out
  have f1 := f1.out
  go_wp2_with fail
  refine (HN.out _).mono ?_
  clear HN
  rintro e w9 ⟨rfl, hb⟩
  have B9 := Lib.hid (after B8.out hb)
  clear hb B8 d0 d1 f0 f1
  go_wp2_with fail
  refine (HM.out _).mono ?_
  clear HM
  rintro e w10 ⟨rfl, hb⟩
  have B10 := Lib.hid (after B9.out hb)
  clear hb B9
  go_wp2_with fail
  refine (works_calls _ (HG.out.below B10.out)).mono ?_
  clear HG
  rintro e w11 ⟨rfl, hb⟩
  have B11 := Lib.hid (after B10.out hb)
  clear hb B10
  go_wp2_with fail
  go_ret
  exact ⟨rfl, B11.out⟩

theorem law (s : ByteArray) (o l c : Int) (hm : s.size ≤ 9223372036854775807) (ho0 : -9223372036854775808 ≤ o) (ho : o ≤ 9223372036854775807) (hl0 : -9223372036854775808 ≤ l) (hl : l ≤ 9223372036854775807)
    (hc0 : -9223372036854775808 ≤ c) (hc : c ≤ 9223372036854775807) (w : World) (hG : Glob w) :
    Calls Tryd.prog 3 #[.string s, .int .i64 o, .int .i64 l, .int .i64 c] w fun e w' => e = .returned (.bool true) ∧ Below w.heap.size w w' := by
  by_cases hs : 1000 < s.size
  · exact walk_long s o l c hs hm w hG
  · have hA := fun W => of_calls s (by omega) o ho W
    have hB := fun W => of_ref s (by omega) o ho0 ho W
    have hC := fun W => offset_calls s (by omega) l c hc0 hc W
    have hD := fun W => offset_ref s (by omega) l c W
    have hX := fun W => line_calls s (by omega) l W
    have hY := fun W => line_ref s (by omega) l hl0 hl W
    obtain ⟨a0, a1, ae, e1, e2⟩ := encP_is 3 (placeOf s.data.toList o)
    obtain ⟨b, be, e3, e4⟩ := encI_is 3 (placeOffset s.data.toList l c)
    obtain ⟨X, xe, e5, e6⟩ := encS_is 3 (placeLine s.data.toList l)
    rw [e1, e2] at hA hB
    rw [e3, e4] at hC hD
    rw [e5, e6] at hX hY
    exact walk s o l c (by omega) a0 a1 ae b be X xe _ hA hB hC hD hX hY (fun W => count_calls s (by omega) W) (fun W => count_ref s (by omega) W) w hG
end Go.Proofs.YthjpcfohpbbacaaDoor.texts
