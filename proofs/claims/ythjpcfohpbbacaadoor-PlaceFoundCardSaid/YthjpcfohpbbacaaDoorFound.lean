/-
  rewindlaw01.PlaceFound returns true for every text and every two numbers. Conditions: the row's own (the library's tables and errors hold what their initialisers lay).
-/
import Derived.Test.YthjpcfohpbbacaaDoorFrame
import Derived.Test.YthjpcfohpbbacaaDoorMath
namespace Go.Proofs.YthjpcfohpbbacaaDoor.found
open Go Go.ChangeShapes Go.WideShapes Go.ChangeAt Go.RowKit Go.Joins Go.Proofs.YthjpcfohpbbacaaDoor
open Go.ChangeMaps (open_string shut_string)

set_option maxRecDepth 100000 in
set_option maxHeartbeats 1000000 in
theorem walk_long (s : ByteArray) (a b : Int) (hs : 200 < s.size) (hm : s.size ≤ 9223372036854775807) (w : World) (hG : Glob w) :
    Calls Tryd.prog 7 #[.string s, .int .u8 a, .int .u8 b] w fun e w' => e = .returned (.bool true) ∧ Below w.heap.size w w' := by
  have HG := Lib.hid hG
  clear hG
  go_enter Tryd.func7, Tryd.ntmps7
  go_wp2_with fail
  refine (works_calls _ HG.out).mono ?_
  clear HG
  rintro e w' ⟨rfl, hb⟩
  go_wp2_with fail
  go_ret
  exact ⟨rfl, hb⟩

set_option maxRecDepth 100000 in
set_option maxHeartbeats 1000000 in
theorem walk_none (s : ByteArray) (a b : Int) (hs : s.size ≤ 200) (ha0 : 0 ≤ a) (ha1 : a ≤ 255) (hb0 : 0 ≤ b) (hb1 : b ≤ 255) 
    (hO : ∀ W, Calls Tryd.prog 14 #[.string s, .agg #[.int .i64 a, .int .i64 b]] W fun e w' => e = .returned (.tuple #[.int .i64 0, .int .i64 3]) ∧ Below W.heap.size W w')
    (hL : ∀ W, Calls Tryd.prog 16 #[.string s, .int .i64 a] W fun e w' => e = .returned (.tuple #[.string ⟨#[]⟩, .int .i64 3]) ∧ Below W.heap.size W w')
    (w : World) (hG : Glob w) :
    Calls Tryd.prog 7 #[.string s, .int .u8 a, .int .u8 b] w fun e w' => e = .returned (.bool true) ∧ Below w.heap.size w w' := by
  have HG := Lib.hid hG
  have HO := Lib.hid hO
  have HL := Lib.hid hL
  clear hG hO hL
  go_enter Tryd.func7, Tryd.ntmps7
  have q0 := Lib.hid (Cell.new w #[.int .i64 a, .int .i64 b] 24 0 _ rfl)
  have q1 := Lib.hid (Cell.new w #[.int .i64 a, .int .i64 b] 24 1 _ rfl)
  have B0 := Lib.hid ((Below.refl _ w).alloc (Nat.le_refl _) (.cells #[.int .i64 a, .int .i64 b] 24))
  have z0 := Lib.hid (show w.heap.size < (w.alloc (.cells #[.int .i64 a, .int .i64 b] 24)).heap.size by simp)
  go_wp2_with fail
  refine (HO.out _).mono ?_
  clear HO
  generalize w.alloc (.cells #[.int .i64 a, .int .i64 b] 24) = w1 at *
  rintro e w2 ⟨rfl, hb⟩
  have B2 := Lib.hid (after B0.out hb)
  have k0 := (q0.out.below hb z0.out).1
  have k1 := (q1.out.below hb z0.out).1
  clear hb B0 q0 q1 z0
  go_wp2_with fail
  refine (HL.out _).mono ?_
  clear HL
  rintro e w3 ⟨rfl, hb⟩
  have B3 := Lib.hid (after B2.out hb)
  have k0 := (hb.cell (World.block_lt_of_cell? _ _ k0)).trans k0
  have k1 := (hb.cell (World.block_lt_of_cell? _ _ k1)).trans k1
  clear hb B2
  go_wp2_with fail
  refine (works_calls _ (HG.out.below B3.out)).mono ?_
  clear HG
  rintro e w4 ⟨rfl, hb⟩
  have B4 := Lib.hid (after B3.out hb)
  clear hb B3
  go_wp2_with fail
  go_ret
  exact ⟨rfl, B4.out⟩

set_option maxRecDepth 100000 in
set_option maxHeartbeats 1000000 in
theorem walk_zero (s : ByteArray) (a b : Int) (hs : s.size ≤ 200) (ha0 : 0 ≤ a) (ha1 : a ≤ 255) (hb0 : 0 ≤ b) (hb1 : b ≤ 255) (t : Bytes) (hd : decide (1 ≤ b) = false)
    (hO : ∀ W, Calls Tryd.prog 14 #[.string s, .agg #[.int .i64 a, .int .i64 b]] W fun e w' => e = .returned (.tuple #[.int .i64 0, .int .i64 3]) ∧ Below W.heap.size W w')
    (hL : ∀ W, Calls Tryd.prog 16 #[.string s, .int .i64 a] W fun e w' => e = .returned (.tuple #[.string (B t), .int .i64 0]) ∧ Below W.heap.size W w')
    (w : World) (hG : Glob w) :
    Calls Tryd.prog 7 #[.string s, .int .u8 a, .int .u8 b] w fun e w' => e = .returned (.bool true) ∧ Below w.heap.size w w' := by
  have HG := Lib.hid hG
  have HO := Lib.hid hO
  have HL := Lib.hid hL
  clear hG hO hL
  go_enter Tryd.func7, Tryd.ntmps7
  have q0 := Lib.hid (Cell.new w #[.int .i64 a, .int .i64 b] 24 0 _ rfl)
  have q1 := Lib.hid (Cell.new w #[.int .i64 a, .int .i64 b] 24 1 _ rfl)
  have B0 := Lib.hid ((Below.refl _ w).alloc (Nat.le_refl _) (.cells #[.int .i64 a, .int .i64 b] 24))
  have z0 := Lib.hid (show w.heap.size < (w.alloc (.cells #[.int .i64 a, .int .i64 b] 24)).heap.size by simp)
  go_wp2_with fail
  refine (HO.out _).mono ?_
  clear HO
  generalize w.alloc (.cells #[.int .i64 a, .int .i64 b] 24) = w1 at *
  rintro e w2 ⟨rfl, hb⟩
  have B2 := Lib.hid (after B0.out hb)
  have k0 := (q0.out.below hb z0.out).1
  have k1 := (q1.out.below hb z0.out).1
  clear hb B0 q0 q1 z0
  go_wp2_with fail
  refine (HL.out _).mono ?_
  clear HL
  rintro e w3 ⟨rfl, hb⟩
  have B3 := Lib.hid (after B2.out hb)
  have k0 := (hb.cell (World.block_lt_of_cell? _ _ k0)).trans k0
  have k1 := (hb.cell (World.block_lt_of_cell? _ _ k1)).trans k1
  clear hb B2
  go_wp2_with fail
  refine (works_calls _ (HG.out.below B3.out)).mono ?_
  clear HG
  rintro e w4 ⟨rfl, hb⟩
  have B4 := Lib.hid (after B3.out hb)
  clear hb B3
  go_wp2_with fail
  go_ret
  exact ⟨rfl, B4.out⟩

set_option maxRecDepth 100000 in
set_option maxHeartbeats 1000000 in
theorem walk_far (s : ByteArray) (a b : Int) (hs : s.size ≤ 200) (ha0 : 0 ≤ a) (ha1 : a ≤ 255) (hb0 : 0 ≤ b) (hb1 : b ≤ 255) (t : Bytes) (ht : t.length ≤ 200) (hd : decide (1 ≤ b) = true) (hf : decide (b ≤ (t.length : Int) + 1) = false)
    (hO : ∀ W, Calls Tryd.prog 14 #[.string s, .agg #[.int .i64 a, .int .i64 b]] W fun e w' => e = .returned (.tuple #[.int .i64 0, .int .i64 3]) ∧ Below W.heap.size W w')
    (hL : ∀ W, Calls Tryd.prog 16 #[.string s, .int .i64 a] W fun e w' => e = .returned (.tuple #[.string (B t), .int .i64 0]) ∧ Below W.heap.size W w')
    (w : World) (hG : Glob w) :
    Calls Tryd.prog 7 #[.string s, .int .u8 a, .int .u8 b] w fun e w' => e = .returned (.bool true) ∧ Below w.heap.size w w' := by
  have HG := Lib.hid hG
  have HO := Lib.hid hO
  have HL := Lib.hid hL
  clear hG hO hL
  go_enter Tryd.func7, Tryd.ntmps7
  have q0 := Lib.hid (Cell.new w #[.int .i64 a, .int .i64 b] 24 0 _ rfl)
  have q1 := Lib.hid (Cell.new w #[.int .i64 a, .int .i64 b] 24 1 _ rfl)
  have B0 := Lib.hid ((Below.refl _ w).alloc (Nat.le_refl _) (.cells #[.int .i64 a, .int .i64 b] 24))
  have z0 := Lib.hid (show w.heap.size < (w.alloc (.cells #[.int .i64 a, .int .i64 b] 24)).heap.size by simp)
  go_wp2_with fail
  refine (HO.out _).mono ?_
  clear HO
  generalize w.alloc (.cells #[.int .i64 a, .int .i64 b] 24) = w1 at *
  rintro e w2 ⟨rfl, hb⟩
  have B2 := Lib.hid (after B0.out hb)
  have k0 := (q0.out.below hb z0.out).1
  have k1 := (q1.out.below hb z0.out).1
  clear hb B0 q0 q1 z0
  go_wp2_with fail
  refine (HL.out _).mono ?_
  clear HL
  rintro e w3 ⟨rfl, hb⟩
  have B3 := Lib.hid (after B2.out hb)
  have k0 := (hb.cell (World.block_lt_of_cell? _ _ k0)).trans k0
  have k1 := (hb.cell (World.block_lt_of_cell? _ _ k1)).trans k1
  clear hb B2
  go_wp2_with fail
  refine (works_calls _ (HG.out.below B3.out)).mono ?_
  clear HG
  rintro e w4 ⟨rfl, hb⟩
  have B4 := Lib.hid (after B3.out hb)
  clear hb B3
  go_wp2_with fail
  go_ret
  exact ⟨rfl, B4.out⟩

set_option maxRecDepth 100000 in
set_option maxHeartbeats 1000000 in
theorem walk_ok (s : ByteArray) (a b : Int) (hs : s.size ≤ 200) (ha0 : 0 ≤ a) (ha1 : a ≤ 255) (hb0 : 0 ≤ b) (hb1 : b ≤ 255) (t : Bytes) (ht : t.length ≤ 200) (o : Int) (hd : decide (1 ≤ b) = true) (hf : decide (b ≤ (t.length : Int) + 1) = true)
    (hF : ∀ W, Calls Tryd.prog 12 #[.string s, .int .i64 o] W fun e w' => e = .returned (.tuple #[.agg #[.int .i64 a, .int .i64 b], .int .i64 0]) ∧ Below W.heap.size W w')
    (hO : ∀ W, Calls Tryd.prog 14 #[.string s, .agg #[.int .i64 a, .int .i64 b]] W fun e w' => e = .returned (.tuple #[.int .i64 o, .int .i64 0]) ∧ Below W.heap.size W w')
    (hL : ∀ W, Calls Tryd.prog 16 #[.string s, .int .i64 a] W fun e w' => e = .returned (.tuple #[.string (B t), .int .i64 0]) ∧ Below W.heap.size W w')
    (w : World) (hG : Glob w) :
    Calls Tryd.prog 7 #[.string s, .int .u8 a, .int .u8 b] w fun e w' => e = .returned (.bool true) ∧ Below w.heap.size w w' := by
  have HG := Lib.hid hG
  have HO := Lib.hid hO
  have HL := Lib.hid hL
  have HF := Lib.hid hF
  clear hG hO hL hF
  go_enter Tryd.func7, Tryd.ntmps7
  have q0 := Lib.hid (Cell.new w #[.int .i64 a, .int .i64 b] 24 0 _ rfl)
  have q1 := Lib.hid (Cell.new w #[.int .i64 a, .int .i64 b] 24 1 _ rfl)
  have B0 := Lib.hid ((Below.refl _ w).alloc (Nat.le_refl _) (.cells #[.int .i64 a, .int .i64 b] 24))
  have z0 := Lib.hid (show w.heap.size < (w.alloc (.cells #[.int .i64 a, .int .i64 b] 24)).heap.size by simp)
  go_wp2_with fail
  refine (HO.out _).mono ?_
  clear HO
  generalize w.alloc (.cells #[.int .i64 a, .int .i64 b] 24) = w1 at *
  rintro e w2 ⟨rfl, hb⟩
  have B2 := Lib.hid (after B0.out hb)
  have k0 := (q0.out.below hb z0.out).1
  have k1 := (q1.out.below hb z0.out).1
  clear hb B0 q0 q1 z0
  go_wp2_with fail
  refine (HL.out _).mono ?_
  clear HL
  rintro e w3 ⟨rfl, hb⟩
  have B3 := Lib.hid (after B2.out hb)
  have k0 := (hb.cell (World.block_lt_of_cell? _ _ k0)).trans k0
  have k1 := (hb.cell (World.block_lt_of_cell? _ _ k1)).trans k1
  clear hb B2
  go_wp2_with fail
  refine (HF.out _).mono ?_
  clear HF
  rintro e w4 ⟨rfl, hb⟩
  have B4 := Lib.hid (after B3.out hb)
  have k0 := (hb.cell (World.block_lt_of_cell? _ _ k0)).trans k0
  have k1 := (hb.cell (World.block_lt_of_cell? _ _ k1)).trans k1
  have z4 : w.heap.size < w4.heap.size := World.block_lt_of_cell? _ _ k0
  clear hb B3
  have B5 := Lib.hid (B4.out.alloc B4.out.size (.cells #[.int .i64 a, .int .i64 b] 24))
  clear B4
  go_wp2_with fail
  refine (works_calls _ (HG.out.below B5.out)).mono ?_
  clear HG
  rintro e w6 ⟨rfl, hb⟩
  have B6 := Lib.hid (after B5.out hb)
  clear hb B5
  go_wp2_with fail
  go_ret
  exact ⟨rfl, B6.out⟩

theorem law (s : ByteArray) (a b : Int) (hm : s.size ≤ 9223372036854775807) (ha0 : 0 ≤ a) (ha1 : a ≤ 255) (hb0 : 0 ≤ b) (hb1 : b ≤ 255) (w : World) (hG : Glob w) :
    Calls Tryd.prog 7 #[.string s, .int .u8 a, .int .u8 b] w fun e w' => e = .returned (.bool true) ∧ Below w.heap.size w w' := by
  by_cases hs : 200 < s.size
  · exact walk_long s a b hs hm w hG
  · have hs2 : s.size ≤ 9223372036854775800 := by omega
    have hO := fun W => offset_calls s hs2 a b (by omega) (by omega) W
    have hL := fun W => line_calls s hs2 a W
    unfold placeOffset at hO
    unfold placeLine at hL
    cases hr : rowAt s.data.toList a with
    | none =>
      rw [hr] at hO hL
      exact walk_none s a b (by omega) ha0 ha1 hb0 hb1 hO hL w hG
    | some r =>
      rw [hr] at hO hL
      obtain ⟨hmem, hnum⟩ := rowAt_mem _ _ _ hr
      have hlen : r.text.length ≤ 200 := by
        obtain ⟨k, hk⟩ := List.getElem?_of_mem hmem
        have := rowsOf_end hk
        rw [← Lib.size_eq] at this
        omega
      dsimp only at hO
      by_cases hd : b < 1
      · rw [if_pos (.inl hd)] at hO
        exact walk_zero s a b (by omega) ha0 ha1 hb0 hb1 r.text (by simp; omega) hO hL w hG
      · by_cases hf : (r.text.length : Int) < b - 1
        · rw [if_pos (.inr hf)] at hO
          exact walk_far s a b (by omega) ha0 ha1 hb0 hb1 r.text hlen (by simp; omega) (by simp; omega) hO hL w hG
        · rw [if_neg (by omega)] at hO
          have hF := fun W => of_calls s hs2 (r.start + b - 1) (by
            obtain ⟨k, hk⟩ := List.getElem?_of_mem hmem
            have := rowsOf_end hk
            rw [← Lib.size_eq] at this
            omega) W
          have hp : placeOf s.data.toList (r.start + b - 1) = some (a, b) := by
            unfold placeOf
            rw [if_neg (by omega), ofRow_of _ r _ hmem (by omega) (by omega)]
            simp only [Option.map_some, Option.some.injEq, Prod.mk.injEq]
            exact ⟨hnum, by omega⟩
          rw [hp] at hF
          exact walk_ok s a b (by omega) ha0 ha1 hb0 hb1 r.text hlen _ (by simp; omega) (by simp; omega) hF hO hL w hG
end Go.Proofs.YthjpcfohpbbacaaDoor.found
