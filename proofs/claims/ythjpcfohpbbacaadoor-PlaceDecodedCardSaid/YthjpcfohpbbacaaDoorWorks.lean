/-
  The examples of the chapter: rewindlaw01.works returns true.
-/
import Derived.Test.YthjpcfohpbbacaaDoorParse
namespace Go.Proofs.YthjpcfohpbbacaaDoor
open Go Go.RowKit Go.Shelf Go.Sort

theorem after {w W W' : World} (h : Below w.heap.size w W) (hb : Below W.heap.size W W') : Below w.heap.size w W' := h.trans (hb.mono h.size)

abbrev T5 : ByteArray := ⟨#[97, 98, 10, 10, 99]⟩
def exs : List (Int × Int) := [(1, 1), (1, 2), (1, 3), (2, 1), (3, 1), (3, 2)]
def exL (k : Nat) : Int := (exs.getD k (0, 0)).1
def exC (k : Nat) : Int := (exs.getD k (0, 0)).2

theorem ex_of : ∀ k : Fin 6, placeOf T5.data.toList k.val = some (exL k.val, exC k.val) := by decide
theorem ex_offset : ∀ k : Fin 6, placeOffset T5.data.toList (exL k.val) (exC k.val) = some (k.val : Int) := by decide
theorem ex_bound : ∀ k : Fin 6, -9223372036854775808 ≤ exC k.val ∧ exC k.val ≤ 9223372036854775807 := by decide

theorem of_ex (k : Nat) (hk : k < 6) (w : World) :
    Calls Tryd.prog 12 #[.string T5, .int .i64 k] w fun e w' => e = .returned (.tuple #[.agg #[.int .i64 (exL k), .int .i64 (exC k)], .int .i64 0]) ∧ Below w.heap.size w w' := by
  have h := of_calls T5 (by decide) k (by omega) w
  rw [ex_of ⟨k, hk⟩] at h
  exact h
theorem offset_ex (k : Nat) (hk : k < 6) (w : World) :
    Calls Tryd.prog 14 #[.string T5, .agg #[.int .i64 (exL k), .int .i64 (exC k)]] w fun e w' => e = .returned (.tuple #[.int .i64 k, .int .i64 0]) ∧ Below w.heap.size w w' := by
  have h := offset_calls T5 (by decide) (exL k) (exC k) (ex_bound ⟨k, hk⟩).1 (ex_bound ⟨k, hk⟩).2 w
  rw [ex_offset ⟨k, hk⟩] at h
  exact h
theorem of_6 (w : World) : Calls Tryd.prog 12 #[.string T5, .int .i64 6] w fun e w' => e = .returned (.tuple #[.agg #[.int .i64 0, .int .i64 0], .int .i64 3]) ∧ Below w.heap.size w w' := by
  have h := of_calls T5 (by decide) 6 (by omega) w
  rw [show placeOf T5.data.toList 6 = none by decide] at h
  exact h
theorem offset_14 (w : World) : Calls Tryd.prog 14 #[.string T5, .agg #[.int .i64 1, .int .i64 4]] w fun e w' => e = .returned (.tuple #[.int .i64 0, .int .i64 3]) ∧ Below w.heap.size w w' := by
  have h := offset_calls T5 (by decide) 1 4 (by omega) (by omega) w
  rw [show placeOffset T5.data.toList 1 4 = none by decide] at h
  exact h
theorem line_3 (w : World) : Calls Tryd.prog 16 #[.string T5, .int .i64 3] w fun e w' => e = .returned (.tuple #[.string ⟨#[99]⟩, .int .i64 0]) ∧ Below w.heap.size w w' := by
  have h := line_calls T5 (by decide) 3 w
  rw [show placeLine T5.data.toList 3 = some [99] by decide] at h
  exact h
theorem line_4 (w : World) : Calls Tryd.prog 16 #[.string T5, .int .i64 4] w fun e w' => e = .returned (.tuple #[.string ⟨#[]⟩, .int .i64 3]) ∧ Below w.heap.size w w' := by
  have h := line_calls T5 (by decide) 4 w
  rw [show placeLine T5.data.toList 4 = none by decide] at h
  exact h
theorem of_empty (w : World) : Calls Tryd.prog 12 #[.string ⟨#[]⟩, .int .i64 0] w fun e w' => e = .returned (.tuple #[.agg #[.int .i64 1, .int .i64 1], .int .i64 0]) ∧ Below w.heap.size w w' := by
  have h := of_calls ⟨#[]⟩ (by decide) 0 (by omega) w
  rw [show placeOf (⟨#[]⟩ : ByteArray).data.toList 0 = some (1, 1) by decide] at h
  exact h
theorem count_5 (w : World) : Calls Tryd.prog 18 #[.string T5] w fun e w' => e = .returned (.int .i64 3) ∧ Below w.heap.size w w' := by
  have h := count_calls T5 (by decide) w
  rw [show (lines T5.data.toList).length = 3 by decide] at h
  exact h
theorem count_0 (w : World) : Calls Tryd.prog 18 #[.string ⟨#[]⟩] w fun e w' => e = .returned (.int .i64 1) ∧ Below w.heap.size w w' := by
  have h := count_calls ⟨#[]⟩ (by decide) w
  rw [show (lines (⟨#[]⟩ : ByteArray).data.toList).length = 1 by decide] at h
  exact h
theorem text_32 (w : World) (hG : Glob w) : Calls Tryd.prog 20 #[.agg #[.int .i64 3, .int .i64 2]] w fun e w' => e = .returned (.tuple #[.string ⟨#[51, 58, 50]⟩, .int .i64 0]) ∧ Below w.heap.size w w' := by
  have h := text_calls 3 2 (by omega) (by omega) w hG
  rw [show placeText 3 2 = some [51, 58, 50] by rw [placeText, if_neg (by omega)]; simp [Lib.itoa, Lib.decDigits_one]] at h
  exact h
theorem text_01 (w : World) (hG : Glob w) : Calls Tryd.prog 20 #[.agg #[.int .i64 0, .int .i64 1]] w fun e w' => e = .returned (.tuple #[.string ⟨#[]⟩, .int .i64 2]) ∧ Below w.heap.size w w' := by
  have h := text_calls 0 1 (by omega) (by omega) w hG
  rw [show placeText 0 1 = none by rw [placeText, if_pos (by omega)]] at h
  exact h
theorem parse_302 (w : World) (hG : Glob w) : Calls Tryd.prog 22 #[.string ⟨#[51, 58, 48, 50]⟩] w fun e w' => e = .returned (.tuple #[.agg #[.int .i64 0, .int .i64 0], .int .i64 7]) ∧ Below w.heap.size w w' := by
  have h := parse_calls ⟨#[51, 58, 48, 50]⟩ (by decide) w hG
  rw [show placeParse (⟨#[51, 58, 48, 50]⟩ : ByteArray).data.toList = none by
    have e1 : placeNum (upTo 58 [51, 58, 48, 50]) = 3 := by decide
    have e2 : placeNum ((behind 58 [51, 58, 48, 50]).getD []) = 2 := by decide
    show placeParse [51, 58, 48, 50] = none
    unfold placeParse
    rw [e1, e2, placeText, if_neg (by omega)]
    simp [Lib.itoa, Lib.decDigits_one]] at h
  exact h
theorem parse_3 (w : World) (hG : Glob w) : Calls Tryd.prog 22 #[.string ⟨#[51]⟩] w fun e w' => e = .returned (.tuple #[.agg #[.int .i64 0, .int .i64 0], .int .i64 7]) ∧ Below w.heap.size w w' := by
  have h := parse_calls ⟨#[51]⟩ (by decide) w hG
  rw [show placeParse (⟨#[51]⟩ : ByteArray).data.toList = none by
    have e2 : placeNum ((behind 58 [51]).getD []) = 0 := by decide
    show placeParse [51] = none
    unfold placeParse
    rw [e2, placeText, if_pos (by omega)]] at h
  exact h

set_option maxRecDepth 100000 in
set_option maxHeartbeats 4000000 in
theorem works_calls (w : World) (hG : Glob w) :
    Calls Tryd.prog 11 #[] w fun e w' => e = .returned (.bool true) ∧ Below w.heap.size w w' := by
  have HG := Lib.hid hG
  clear hG
  go_enter Tryd.func11, Tryd.ntmps11
  go_wp2_with fail
  have hc0 : ∀ k : Nat, k < 6 → Cell (w.alloc (.cells #[.int .i64 1, .int .i64 1, .int .i64 1, .int .i64 2, .int .i64 1, .int .i64 3, .int .i64 2, .int .i64 1, .int .i64 3, .int .i64 1, .int .i64 3, .int .i64 2] 24)) ⟨w.heap.size, k * 2, none⟩ (.int .i64 (exL k)) ∧
      Cell (w.alloc (.cells #[.int .i64 1, .int .i64 1, .int .i64 1, .int .i64 2, .int .i64 1, .int .i64 3, .int .i64 2, .int .i64 1, .int .i64 3, .int .i64 1, .int .i64 3, .int .i64 2] 24)) ⟨w.heap.size, k * 2 + 1, none⟩ (.int .i64 (exC k)) := by
    intro k hk
    obtain rfl | rfl | rfl | rfl | rfl | rfl : k = 0 ∨ k = 1 ∨ k = 2 ∨ k = 3 ∨ k = 4 ∨ k = 5 := by omega
    all_goals exact ⟨Cell.new w _ _ _ _ rfl, Cell.new w _ _ _ _ rfl⟩
  have hb0 : Below w.heap.size w (w.alloc (.cells #[.int .i64 1, .int .i64 1, .int .i64 1, .int .i64 2, .int .i64 1, .int .i64 3, .int .i64 2, .int .i64 1, .int .i64 3, .int .i64 1, .int .i64 3, .int .i64 2] 24)) := (Below.refl _ w).alloc (Nat.le_refl _) _
  have hz0 : (w.alloc (.cells #[.int .i64 1, .int .i64 1, .int .i64 1, .int .i64 2, .int .i64 1, .int .i64 3, .int .i64 2, .int .i64 1, .int .i64 3, .int .i64 1, .int .i64 3, .int .i64 2] 24)).heap.size = w.heap.size + 1 := by simp
  generalize w.alloc (.cells #[.int .i64 1, .int .i64 1, .int .i64 1, .int .i64 2, .int .i64 1, .int .i64 3, .int .i64 2, .int .i64 1, .int .i64 3, .int .i64 1, .int .i64 3, .int .i64 2] 24) = w0 at hc0 hb0 hz0 ⊢
  have HC := Lib.hid hc0
  have HB := Lib.hid hb0
  have HZ := Lib.hid hz0
  clear hc0 hb0 hz0
  go_loopw [33] (fun i wr => ∃ k : Nat, k ≤ 6 ∧ i = .int .i64 k ∧ Below (w.heap.size + 1) w0 wr) (fun i _ => 6 - (intOf i).toNat)
  case atStart => exact ⟨0, by omega, rfl, Below.refl _ _⟩
  case round =>
    obtain ⟨k, hk, rfl, hbr⟩ := hrel
    by_cases hlt : k < 6
    · obtain ⟨⟨c0, f0⟩, ⟨c1, f1⟩⟩ := HC.out k hlt
      have c0' : wr.cell? ⟨w.heap.size, k * 2, none⟩ = some (.int .i64 (exL k)) := (hbr.cell (p := ⟨w.heap.size, k * 2, none⟩) (show w.heap.size < w.heap.size + 1 by omega)).trans c0
      have c1' : wr.cell? ⟨w.heap.size, k * 2 + 1, none⟩ = some (.int .i64 (exC k)) := (hbr.cell (p := ⟨w.heap.size, k * 2 + 1, none⟩) (show w.heap.size < w.heap.size + 1 by omega)).trans c1
      have hO := fun W => of_ex k hlt W
      have hF := fun W => offset_ex k hlt W
      have HBR := Lib.hid hbr
      clear c0 c1 f0 f1 hbr
      generalize exL k = a at *
      generalize exC k = b at *
      have HO := Lib.hid hO
      have HF := Lib.hid hF
      clear hO hF
      go_wp2_with fail
      have p0 := Cell.new wr #[.int .i64 a, .int .i64 b] 24 0 _ rfl
      have p1 := Cell.new wr #[.int .i64 a, .int .i64 b] 24 1 _ rfl
      have B1 := Lib.hid (HBR.out.alloc (by have := HZ.out; have := HBR.out.size; omega) (.cells #[.int .i64 a, .int .i64 b] 24))
      have s1 : (wr.alloc (.cells #[.int .i64 a, .int .i64 b] 24)).heap.size = wr.heap.size + 1 := by simp
      have hwr : w.heap.size + 1 ≤ wr.heap.size := by have := HZ.out; have := HBR.out.size; omega
      refine (HO.out _).mono ?_
      clear HO HBR
      generalize hW1 : wr.alloc (.cells #[.int .i64 a, .int .i64 b] 24) = W1 at *
      clear hW1
      rintro e W2 ⟨rfl, hb⟩
      have B2 := Lib.hid (B1.out.trans (hb.mono (by omega)))
      have p0' := (p0.below hb (show wr.heap.size < W1.heap.size by omega)).1
      have p1' := (p1.below hb (show wr.heap.size < W1.heap.size by omega)).1
      have s2 : wr.heap.size < W2.heap.size := by have := hb.size; omega
      have P0 := Lib.hid p0'
      have P1 := Lib.hid p1'
      clear B1 p0 p1 p0' p1' hb s1
      have q0 : W2.cell? ⟨wr.heap.size, 0, none⟩ = some (.int .i64 a) := P0.out
      have q1 : W2.cell? ⟨wr.heap.size, 1, none⟩ = some (.int .i64 b) := P1.out
      go_wp2_with fail
      have B3 := Lib.hid (B2.out.alloc (by omega) (.cells #[.int .i64 a, .int .i64 b] 24))
      have r0 := Cell.new W2 #[.int .i64 a, .int .i64 b] 24 0 _ rfl
      have r1 := Cell.new W2 #[.int .i64 a, .int .i64 b] 24 1 _ rfl
      refine (HF.out _).mono ?_
      clear HF
      rintro e W4 ⟨rfl, hb⟩
      have B4 := Lib.hid (B3.out.trans (hb.mono (by simp; omega)))
      have r0' := (r0.below hb (by simp)).1
      have r1' := (r1.below hb (by simp)).1
      have q0' : W4.cell? ⟨wr.heap.size, 0, none⟩ = some (.int .i64 a) := (hb.cell (p := ⟨wr.heap.size, 0, none⟩) (by simp; omega)).trans ((Below.cell (B := W2.heap.size) ((Below.refl _ _).alloc (Nat.le_refl _) _) (show wr.heap.size < W2.heap.size by omega)).trans q0)
      have q1' : W4.cell? ⟨wr.heap.size, 1, none⟩ = some (.int .i64 b) := (hb.cell (p := ⟨wr.heap.size, 1, none⟩) (by simp; omega)).trans ((Below.cell (B := W2.heap.size) ((Below.refl _ _).alloc (Nat.le_refl _) _) (show wr.heap.size < W2.heap.size by omega)).trans q1)
      clear hb r0 r1 q0 q1 B3 B2 P0 P1
      go_wp2_with fail
      exact ⟨⟨k + 1, by omega, by go_num, B4.out⟩, by simp [intOf]; omega⟩
    · obtain rfl : k = 6 := by omega
      have B0 := Lib.hid (HB.out.trans (hbr.mono (by omega)))
      clear hbr HB HC HZ
      go_wp2_with fail
      refine (of_6 _).mono ?_
      rintro e w1 ⟨rfl, hb⟩
      have B1 := Lib.hid (after B0.out hb)
      clear hb B0
      go_wp2_with fail
      refine (offset_14 _).mono ?_
      rintro e w2 ⟨rfl, hb⟩
      have B2 := Lib.hid (after (B1.out.alloc B1.out.size _) hb)
      clear hb B1
      go_wp2_with fail
      refine (line_3 _).mono ?_
      rintro e w3 ⟨rfl, hb⟩
      have B3 := Lib.hid (after B2.out hb)
      clear hb B2
      go_wp2_with fail
      refine (line_4 _).mono ?_
      rintro e w4 ⟨rfl, hb⟩
      have B4 := Lib.hid (after B3.out hb)
      clear hb B3
      go_wp2_with fail
      refine (of_empty _).mono ?_
      rintro e w5 ⟨rfl, hb⟩
      have B5 := Lib.hid (after B4.out hb)
      clear hb B4
      have q0 := Lib.hid (Cell.new w5 #[.int .i64 1, .int .i64 1] 24 0 _ rfl)
      have q1 := Lib.hid (Cell.new w5 #[.int .i64 1, .int .i64 1] 24 1 _ rfl)
      have C5 := Lib.hid (B5.out.alloc B5.out.size (.cells #[.int .i64 1, .int .i64 1] 24))
      have z5 := Lib.hid (show w5.heap.size < (w5.alloc (.cells #[.int .i64 1, .int .i64 1] 24)).heap.size by simp)
      clear B5
      go_wp2_with fail
      refine (text_32 _ (HG.out.below C5.out)).mono ?_
      generalize w5.alloc (.cells #[.int .i64 1, .int .i64 1] 24) = w5a at *
      rintro e w6 ⟨rfl, hb⟩
      have B6 := Lib.hid (after C5.out hb)
      have q0 := Lib.hid (q0.out.below hb z5.out)
      have q1 := Lib.hid (q1.out.below hb z5.out)
      have z6 := Lib.hid (Nat.lt_of_lt_of_le z5.out hb.size)
      clear hb C5 z5
      go_wp2_with fail
      refine (text_01 _ (HG.out.below B6.out)).mono ?_
      rintro e w7 ⟨rfl, hb⟩
      have B7 := Lib.hid (after B6.out hb)
      have q0 := Lib.hid (q0.out.below hb z6.out)
      have q1 := Lib.hid (q1.out.below hb z6.out)
      have z7 := Lib.hid (Nat.lt_of_lt_of_le z6.out hb.size)
      clear hb B6 z6
      go_wp2_with fail
      refine (parse_302 _ (HG.out.below B7.out)).mono ?_
      rintro e w8 ⟨rfl, hb⟩
      have B8 := Lib.hid (after B7.out hb)
      have q0 := Lib.hid (q0.out.below hb z7.out)
      have q1 := Lib.hid (q1.out.below hb z7.out)
      have z8 := Lib.hid (Nat.lt_of_lt_of_le z7.out hb.size)
      clear hb B7 z7
      have C8 := Lib.hid (B8.out.alloc B8.out.size (.cells #[.int .i64 0, .int .i64 0] 24))
      have q0 := Lib.hid (q0.out.alloc (.cells #[.int .i64 0, .int .i64 0] 24))
      have q1 := Lib.hid (q1.out.alloc (.cells #[.int .i64 0, .int .i64 0] 24))
      have z8a := Lib.hid (show w5.heap.size < (w8.alloc (.cells #[.int .i64 0, .int .i64 0] 24)).heap.size by have := z8.out; simp; omega)
      clear B8 z8
      go_wp2_with fail
      refine (parse_3 _ (HG.out.below C8.out)).mono ?_
      generalize w8.alloc (.cells #[.int .i64 0, .int .i64 0] 24) = w8a at *
      rintro e w9 ⟨rfl, hb⟩
      have B9 := Lib.hid (after C8.out hb)
      have q0 := Lib.hid (q0.out.below hb z8a.out)
      have q1 := Lib.hid (q1.out.below hb z8a.out)
      have z9 := Lib.hid (Nat.lt_of_lt_of_le z8a.out hb.size)
      clear hb C8 z8a
      have C9 := Lib.hid (B9.out.alloc B9.out.size (.cells #[.int .i64 0, .int .i64 0] 24))
      have q0 := Lib.hid (q0.out.alloc (.cells #[.int .i64 0, .int .i64 0] 24))
      have q1 := Lib.hid (q1.out.alloc (.cells #[.int .i64 0, .int .i64 0] 24))
      have z9a := Lib.hid (show w5.heap.size < (w9.alloc (.cells #[.int .i64 0, .int .i64 0] 24)).heap.size by have := z9.out; simp; omega)
      clear B9 z9
      go_wp2_with fail
      refine (count_5 _).mono ?_
      generalize w9.alloc (.cells #[.int .i64 0, .int .i64 0] 24) = w9a at *
      rintro e w10 ⟨rfl, hb⟩
      have B10 := Lib.hid (after C9.out hb)
      have q0 := Lib.hid (q0.out.below hb z9a.out)
      have q1 := Lib.hid (q1.out.below hb z9a.out)
      have z10 := Lib.hid (Nat.lt_of_lt_of_le z9a.out hb.size)
      clear hb C9 z9a
      go_wp2_with fail
      refine (count_0 _).mono ?_
      rintro e w11 ⟨rfl, hb⟩
      have B11 := Lib.hid (after B10.out hb)
      have q0 := (q0.out.below hb z10.out).1
      have q1 := (q1.out.below hb z10.out).1
      clear hb B10 z10
      go_wp2_with fail
      go_ret
      exact ⟨rfl, B11.out⟩
end Go.Proofs.YthjpcfohpbbacaaDoor
