/-
  place.Compare, place.Text, place.number, place.Parse.
-/
import Derived.Test.YthjpcfohpbbacaaDoorCount
import Derived.Lib.QuietBelow
import Derived.Lib.AppendIntMem
import Derived.Lib.SmallJoins
import Derived.Lib.LaidTab
import Derived.WideLaws
namespace Go.Proofs.YthjpcfohpbbacaaDoor
open Go Go.RowKit Go.Shelf Go.Sort

theorem gTab : Tryd.prog.globalNamed "internal/strconv.uint64pow10" = some 3 := by kernel_rfl

/-- WHAT THE LIBRARY's VARIABLES HOLD. -/
structure Glob (w : World) : Prop where
  tab : Lib.TabIs Tryd.prog w "internal/strconv.uint64pow10" .u64 Lib.pow10Tab
  syn : ∃ t p, w.cell? ⟨4, 0, none⟩ = some (.iface t p)
  ran : ∃ t p, w.cell? ⟨5, 0, none⟩ = some (.iface t p)
  big : 3 < w.heap.size

theorem Glob.below {w w' : World} (h : Glob w) (hb : Below w.heap.size w w') : Glob w' := by
  obtain ⟨h1, ⟨t2, p2, h2⟩, ⟨t3, p3, h3⟩, h4⟩ := h
  exact ⟨var?_below hb gTab h4 h1, ⟨t2, p2, (hb.cell (World.block_lt_of_cell? _ _ h2)).trans h2⟩, ⟨t3, p3, (hb.cell (World.block_lt_of_cell? _ _ h3)).trans h3⟩, Nat.lt_of_lt_of_le h4 hb.size⟩

theorem itoa_calls (n : Int) (h0 : -9223372036854775808 ≤ n) (h1 : n ≤ 9223372036854775807) (w : World) (hG : Glob w) :
    Calls Tryd.prog 34 #[.int .i64 n] w fun e w' => e = .returned (.string (B (Lib.itoa n))) ∧ Below w.heap.size w w' :=
  (Tryd.strconv_Itoa n h0 h1 w hG.tab).mono fun _ _ ⟨he, k, os, hw⟩ => ⟨he, by rw [hw]; exact Lib.below_grow _ _ (Nat.le_refl _) k os⟩

theorem compare_calls (a b c d : Int) (w : World) :
    Calls Tryd.prog 24 #[.agg #[.int .i64 a, .int .i64 b], .agg #[.int .i64 c, .int .i64 d]] w fun e w' => e = .returned (.int .i64 (if a = c then Lib.compareInt b d else Lib.compareInt a c)) ∧ Below w.heap.size w w' := by
  by_cases hac : a = c
  · subst hac
    rw [if_pos rfl]
    by_cases hbd : b = d
    · subst hbd
      have : Lib.compareInt b b = 0 := by simp [Lib.compareInt]
      rw [this]
      clear this
      go_enter Tryd.func24, Tryd.ntmps24
      go_wp2
      go_ret
      exact ⟨rfl, ((Below.refl _ w).alloc (Nat.le_refl _) _).alloc (by simp) _⟩
    · have e1 : (b == d) = false := beq_eq_false_iff_ne.2 hbd
      go_enter Tryd.func24, Tryd.ntmps24
      go_wp2_with (go_at_call 39; refine (Tryd.cmp_Compare_int _ _ _).mono ?_; rintro e w' ⟨rfl, rfl⟩)
      go_ret
      exact ⟨rfl, ((Below.refl _ w).alloc (Nat.le_refl _) _).alloc (by simp) _⟩
  · rw [if_neg hac]
    have e1 : (a == c) = false := beq_eq_false_iff_ne.2 hac
    have e2 : (a != c) = true := by simp [bne, e1]
    go_enter Tryd.func24, Tryd.ntmps24
    go_wp2_with (go_at_call 39; refine (Tryd.cmp_Compare_int _ _ _).mono ?_; rintro e w' ⟨rfl, rfl⟩)
    go_ret
    exact ⟨rfl, ((Below.refl _ w).alloc (Nat.le_refl _) _).alloc (by simp) _⟩

/-- The string of a place. -/
def placeText (l c : Int) : Option Bytes := if l < 1 ∨ c < 1 then none else some (Lib.itoa l ++ 58 :: Lib.itoa c)

theorem nDigits_le (k : Nat) : ∀ u : Nat, u < 10 ^ (k + 1) → Lib.nDigits u ≤ k + 1 := by
  induction k with
  | zero => intro u h; rw [Lib.nDigits_small (by simpa using h)]; exact Nat.le_refl _
  | succ k ih =>
    intro u h
    by_cases hu : u < 10
    · rw [Lib.nDigits_small hu]; omega
    · rw [Lib.nDigits_big hu]
      have := ih (u / 10) (by rw [Nat.pow_succ] at h; omega)
      omega
theorem itoa_length (n : Int) (h0 : 0 ≤ n) (h1 : n ≤ 9223372036854775807) : (Lib.itoa n).length ≤ 20 := by
  unfold Lib.itoa
  rw [if_neg (by omega), Lib.decDigits_length]
  have := nDigits_le 18 n.toNat (by simp only [Nat.reduceAdd, Nat.reducePow]; omega)
  omega
theorem B_append (a b : Bytes) : B a ++ B b = B (a ++ b) := by
  apply ByteArray.ext
  rw [ByteArray.data_append]
  simp

set_option maxRecDepth 100000 in
set_option maxHeartbeats 4000000 in
theorem text_calls (l c : Int) (hl : l ≤ 9223372036854775807) (hc : c ≤ 9223372036854775807) (w : World) (hG : Glob w) :
    Calls Tryd.prog 20 #[.agg #[.int .i64 l, .int .i64 c]] w fun e w' => e = .returned (.tuple #[encS (placeText l c), encE 2 (placeText l c)]) ∧ Below w.heap.size w w' := by
  unfold placeText
  by_cases h1 : l < 1
  · rw [if_pos (Or.inl h1)]
    have e1 : decide (l < 1) = true := by simpa using h1
    clear hG
    go_enter Tryd.func20, Tryd.ntmps20
    go_wp2
    go_ret2
    exact ⟨rfl, ((Below.refl _ w).alloc (Nat.le_refl _) _)⟩
  · have e1 : decide (l < 1) = false := by simpa using h1
    by_cases h2 : c < 1
    · rw [if_pos (Or.inr h2)]
      have e2 : decide (c < 1) = true := by simpa using h2
      clear hG
      go_enter Tryd.func20, Tryd.ntmps20
      go_wp2
      go_ret2
      exact ⟨rfl, ((Below.refl _ w).alloc (Nat.le_refl _) _)⟩
    · rw [if_neg (by omega)]
      have e2 : decide (c < 1) = false := by simpa using h2
      have n1 := itoa_length l (by omega) hl
      have n2 := itoa_length c (by omega) hc
      have hGa : Glob (w.alloc (.cells #[.int .i64 l, .int .i64 c] 24)) := hG.below ((Below.refl _ w).alloc (Nat.le_refl _) _)
      have cL := fun d os => Calls.regrown_of (d := d) (os := os) (itoa_calls l (by omega) hl _ (hGa.below (below_regrown _ d os)))
      have cC := fun d os => Calls.regrown_of (d := d) (os := os) (itoa_calls c (by omega) hc _ (hGa.below (below_regrown _ d os)))
      have k0 := fun d os => cell_regrown (Cell.new w #[.int .i64 l, .int .i64 c] 24 0 _ rfl).1 d os
      have k1 := fun d os => cell_regrown (Cell.new w #[.int .i64 l, .int .i64 c] 24 1 _ rfl).1 d os
      have hb2 : Below w.heap.size w (w.alloc (.cells #[.int .i64 l, .int .i64 c] 24)) := (Below.refl _ w).alloc (Nat.le_refl _) _
      generalize Lib.itoa l = tl at *
      generalize Lib.itoa c = tc at *
      have m1 : ¬ 9223372036854775807 < tl.length + 1 := by omega
      have m2 : ¬ 9223372036854775807 < tl.length + 1 + tc.length := by omega
      clear hG hGa
      go_enter Tryd.func20, Tryd.ntmps20
      go_wp2
      generalize w.alloc (.cells #[.int .i64 l, .int .i64 c] 24) = w2 at *
      refine wp_region_quiet_below (by kernel_rfl) (by kernel_rfl) ?_
      repeat (quiet_step (first | exact cL _ _ | exact cC _ _))
      refine wpQuiet_nil ?_
      intro _ hw'
      obtain ⟨⟨dq, osq⟩, hw''⟩ := hw'
      subst hw''
      go_wp2
      go_ret2
      refine ⟨?_, hb2.trans ((below_regrown w2 dq osq).mono hb2.size)⟩
      show Ending.returned (.tuple #[.string (B tl ++ B [58] ++ B tc), .int .i64 0]) = _
      rw [B_append, B_append, List.append_assoc]
      rfl
/-- What place.number gives: the number that digits stand for, or 0. -/
def placeNum (l : Bytes) : Int := match Lib.atoiAll l with | .ok v => v | _ => 0

set_option maxRecDepth 100000 in
set_option maxHeartbeats 4000000 in
theorem number_calls (s : ByteArray) (hs : s.size ≤ 281474976710656) (w : World) (hG : Glob w) :
    Calls Tryd.prog 37 #[.string s] w fun e w' => e = .returned (.int .i64 (placeNum s.data.toList)) ∧ Below w.heap.size w w' := by
  unfold placeNum
  cases hA : Lib.atoiAll s.data.toList
  · rename_i v
    have HA := Lib.hid hA
    clear hA hG
    go_enter Tryd.func37, Tryd.ntmps37
    go_wp2_with fail
    refine (Tryd.strconv_Atoi_ok s (by omega) v HA.out _).mono ?_
    rintro e w' ⟨rfl, hw⟩
    have hb : Below w.heap.size w w' := by
      rcases hw with rfl | ⟨t, rfl⟩
      · exact Below.refl _ _
      · exact Joins.below_bytesWorld _ _ _ _ (Nat.le_refl _)
    clear hw
    go_wp2
    go_ret
    exact ⟨rfl, hb⟩
  · obtain ⟨t, p, hv⟩ := hG.syn
    have HA := Lib.hid hA
    clear hA hG
    go_enter Tryd.func37, Tryd.ntmps37
    go_wp2_with fail
    refine (Any.strconv_Atoi_syntax Tryd.laysC172 s hs HA.out _ _ hv (.inr ⟨_, _, rfl⟩)).mono ?_
    rintro e w' ⟨N, rfl, _, _, hb⟩
    clear hv
    go_wp2
    go_ret
    exact ⟨rfl, hb⟩
  · obtain ⟨t, p, hv⟩ := hG.ran
    have HA := Lib.hid hA
    clear hA hG
    go_enter Tryd.func37, Tryd.ntmps37
    go_wp2_with fail
    refine (Any.strconv_Atoi_range Tryd.laysC172 s hs HA.out _ _ hv (.inr ⟨_, _, rfl⟩)).mono ?_
    rintro e w' ⟨N, rfl, _, _, hb⟩
    clear hv
    go_wp2
    go_ret
    exact ⟨rfl, hb⟩
end Go.Proofs.YthjpcfohpbbacaaDoor
