/-
  NumberTexts: the law's walk.
-/
import Derived.Test.YtfnobkcnopmfnaaDoorNFrame
namespace Go.Proofs.YtfnobkcnopmfnaaDoor.texts
open Go Go.RowKit Go.Proofs.YtfnobkcnopmfnaaDoor

set_option maxRecDepth 100000 in
set_option maxHeartbeats 4000000 in
theorem long (n : Int) (s : ByteArray) (hs : 1000 < s.size) (hm : s.size ≤ 9223372036854775807) (w : World) (hG : Glob w) :
    Calls Tryd.prog 3 #[.int .i64 n, .string s] w fun e w' => e = .returned (.bool true) ∧ Below w.heap.size w w' := by
  have HG := Lib.hid hG
  have e1 : (1000 : Int) < s.size := by omega
  clear hG
  go_enter Tryd.func3, Tryd.ntmps3
  go_wp2_with fail
  refine (works_calls _ HG.out).mono ?_
  rintro e w2 ⟨rfl, hb⟩
  have B2 := Lib.hid hb
  clear hb
  go_wp2_with fail
  go_ret
  exact ⟨rfl, B2.out⟩

theorem same_true (v1 v2 : Value) (l : List Int) (w : World) (h1 : Ints w v1 l) (h2 : Ints w v2 l) (hm : l.length ≤ 100000000) :
    Calls Tryd.prog 18 #[v1, v2] w fun e w' => e = .returned (.bool true) ∧ Below w.heap.size w w' := by
  have := same_ref v1 v2 l l w h1 h2 hm
  rw [show (l == l) = true by simp] at this
  exact this
theorem list_len (s : Bytes) : (listOr (numList s)).length ≤ s.length + 1 := by
  unfold numList
  split
  · simp [listOr]
  · cases h : allNums (parts 44 s) with
    | none => simp [listOr]
    | some l =>
      have h1 := allNums_length h
      have h2 := parts_length 44 s
      simp only [listOr]
      omega

set_option maxRecDepth 100000 in
set_option maxHeartbeats 4000000 in
theorem short (n : Int) (hn : okI n) (s : ByteArray) (hs : s.size ≤ 1000) (w : World) (hG : Glob w) :
    Calls Tryd.prog 3 #[.int .i64 n, .string s] w fun e w' => e = .returned (.bool true) ∧ Below w.heap.size w w' := by
  have hP : ∃ x e : Int, encN (numParse s.data.toList) = .int .i64 x ∧ encE 7 (numParse s.data.toList) = .int .i64 e := by
    cases numParse s.data.toList with
    | none => exact ⟨_, _, rfl, rfl⟩
    | some p => exact ⟨_, _, rfl, rfl⟩
  have hL : ∃ e : Int, encE 7 (numList s.data.toList) = .int .i64 e := by
    cases numList s.data.toList with
    | none => exact ⟨_, rfl⟩
    | some p => exact ⟨_, rfl⟩
  obtain ⟨x, e, hx, he⟩ := hP
  obtain ⟨g, hg⟩ := hL
  have P1 := parse_calls s
  have P2 := parse_ref s (by omega)
  have L1 := list_calls s (by omega)
  have L2 := list_ref s (by omega)
  have hln := list_len s.data.toList
  rw [← Lib.size_eq] at hln
  unfold ListIs at L1 L2
  rw [hx, he] at P1 P2
  rw [hg] at L1 L2
  generalize listOr (numList s.data.toList) = l at *
  have HP1 := Lib.hid P1
  have HP2 := Lib.hid P2
  have HL1 := Lib.hid L1
  have HL2 := Lib.hid L2
  have HT1 := Lib.hid (text_calls n hn)
  have HT2 := Lib.hid (text_ref n hn)
  have HG := Lib.hid hG
  have hl : l.length ≤ 100000000 := by omega
  have HLL := Lib.hid hl
  clear hG P1 P2 L1 L2 hx he hg hn hln hl
  generalize Lib.itoa n = tx at *
  have e1 : ¬ (1000 : Int) < s.size := by omega
  go_enter Tryd.func3, Tryd.ntmps3
  go_wp2_with fail
  refine (HP1.out _ HG.out).mono ?_
  rintro e w1 ⟨rfl, hb⟩
  have B1 := Lib.hid hb
  clear hb HP1
  go_wp2_with fail
  refine (HP2.out _).mono ?_
  rintro e w' ⟨rfl, rfl⟩
  clear HP2
  go_wp2_with fail
  refine (HL1.out _ (HG.out.below B1.out)).mono ?_
  rintro e w2 ⟨v1, rfl, hi, hb⟩
  have B2 := Lib.hid (after B1.out hb)
  have I1 := Lib.hid hi
  clear hb hi B1 HL1
  go_wp2_with fail
  refine (HL2.out _).mono ?_
  rintro e w3 ⟨v2, rfl, hi, hb⟩
  have B3 := Lib.hid (after B2.out hb)
  have I2 := Lib.hid (I1.out.below hb)
  have J2 := Lib.hid hi
  clear hb hi B2 HL2 I1
  go_wp2_with fail
  refine (HT1.out _ (HG.out.below B3.out)).mono ?_
  rintro e w4 ⟨rfl, hb⟩
  have B4 := Lib.hid (after B3.out hb)
  have I3 := Lib.hid (I2.out.below hb)
  have J3 := Lib.hid (J2.out.below hb)
  clear hb B3 HT1 I2 J2
  go_wp2_with fail
  refine (HT2.out _).mono ?_
  rintro e w' ⟨rfl, rfl⟩
  clear HT2
  go_wp2_with fail
  refine (same_true v1 v2 l _ I3.out J3.out HLL.out).mono ?_
  rintro e w5 ⟨rfl, hb⟩
  have B5 := Lib.hid (after B4.out hb)
  clear hb B4 I3 J3
  go_wp2_with fail
  refine (works_calls _ (HG.out.below B5.out)).mono ?_
  rintro e w6 ⟨rfl, hb⟩
  have B6 := Lib.hid (after B5.out hb)
  clear hb B5
  go_wp2_with fail
  go_ret
  exact ⟨rfl, B6.out⟩
theorem law (n : Int) (s : ByteArray) (h1 : -9223372036854775808 ≤ n) (h2 : n ≤ 9223372036854775807) (hm : s.size ≤ 9223372036854775807) (w : World) (hG : Glob w) :
    Calls Tryd.prog 3 #[.int .i64 n, .string s] w fun e w' => e = .returned (.bool true) ∧ Below w.heap.size w w' := by
  by_cases hs : 1000 < s.size
  · exact long n s hs hm w hG
  · exact short n ⟨h1, h2⟩ s (by omega) w hG
end Go.Proofs.YtfnobkcnopmfnaaDoor.texts
