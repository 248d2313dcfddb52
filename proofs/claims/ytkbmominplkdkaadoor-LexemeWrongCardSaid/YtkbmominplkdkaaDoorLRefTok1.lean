/-
  The reference's great; its token at a letter: contracts.
-/
import Derived.Test.YtkbmominplkdkaaDoorLRefSkip
import Derived.Test.YtkbmominplkdkaaDoorLToken
namespace Go.Proofs.YtkbmominplkdkaaDoor
open Go Go.RowKit Go.Sort

theorem gtr_run (s : Bytes) (w : World) : (binOp BinOp.gtr 9 (.string (B s)) (.string (⟨#[57, 50, 50, 51, 51, 55, 50, 48, 51, 54, 56, 53, 52, 55, 55, 53, 56, 48, 55]⟩ : ByteArray))).run Tryd.prog w = .ok (.bool (!(Op.bytesLess (B s).toList (⟨#[57, 50, 50, 51, 51, 55, 50, 48, 51, 54, 56, 53, 52, 55, 55, 53, 56, 48, 55]⟩ : ByteArray).toList || (B s).toList == (⟨#[57, 50, 50, 51, 51, 55, 50, 48, 51, 54, 56, 53, 52, 55, 55, 53, 56, 48, 55]⟩ : ByteArray).toList))) w := by kernel_rfl
theorem great_calls (s : Bytes) (hs : s.length ≤ 9223372036854775807) (w : World) :
    Calls Tryd.prog 38 #[.string (B s)] w fun e w' => e = .returned (.bool (great s)) ∧ w = w' := by
  by_cases h1 : 19 < s.length
  · have d1 : (19 : Int) < (s.length : Int) := by omega
    go_enter Tryd.func38, Tryd.ntmps38
    go_wp2_with fail
    go_ret
    exact ⟨by simp [great, h1], rfl⟩
  · by_cases h2 : s.length = 19
    · have d1 : ((s.length : Int) == 19) = true := by simp; omega
      have d0 : ¬ (19 : Int) < (s.length : Int) := by omega
      have hq := gtr_run s w
      go_enter Tryd.func38, Tryd.ntmps38
      go_wp2_with fail
      go_ret
      exact ⟨by simp [great, h2, mostL], rfl⟩
    · have d0 : ¬ (19 : Int) < (s.length : Int) := by omega
      have d1 : ((s.length : Int) == 19) = false := by simp; omega
      go_enter Tryd.func38, Tryd.ntmps38
      go_wp2_with fail
      go_ret
      exact ⟨by simp [great, h1, h2], rfl⟩

def RTokAt (w : World) (b : Nat) (c0 c1 c2 : Value) : Prop := w.heap[b]? = some (.cells #[c0, c1, c2] 31)
theorem RTokAt.at_ {w : World} {b : Nat} {c0 c1 c2 : Value} (h : RTokAt w b c0 c1 c2) : w.cell? ⟨b, 0, none⟩ = some c0 ∧ w.cell? ⟨b, 1, none⟩ = some c1 ∧ w.cell? ⟨b, 2, none⟩ = some c2 := by
  refine ⟨?_, ?_, ?_⟩ <;> rw [cell_of_row _ _ _ _ _ _ h] <;> rfl
theorem RTokAt.free {w : World} {b : Nat} {c0 c1 c2 : Value} (h : RTokAt w b c0 c1 c2) (i : Nat) : w.frozen? ⟨b, i, none⟩ = false := by
  unfold World.frozen?
  rw [show w.heap[(⟨b, i, none⟩ : Addr).block]? = _ from h]
  simp
theorem RTokAt.below {w w' : World} {b : Nat} {c0 c1 c2 : Value} (h : RTokAt w b c0 c1 c2) (hb : Below w.heap.size w w') : RTokAt w' b c0 c1 c2 := by
  have hl : b < w.heap.size := by
    rcases Nat.lt_or_ge b w.heap.size with h1 | h1
    · exact h1
    · unfold RTokAt at h; rw [Array.getElem?_eq_none h1] at h; cases h
  exact (hb.block b hl).trans h
theorem RTokAt.new (w : World) (c0 c1 c2 : Value) : RTokAt (w.alloc (.cells #[c0, c1, c2] 31)) w.heap.size c0 c1 c2 := heap_alloc_new w _

theorem ext_row {s : Bytes} {a e : Nat} {p : UInt8 → Bool} (h1 : a ≤ e) (h2 : e ≤ s.length) (h3 : ((s.drop a).take (e - a)).all p = true) (h4 : e = s.length ∨ ∃ c, s[e]? = some c ∧ p c = false) : (B s).extract a e = B ((s.drop a).takeWhile p) := by
  rw [Lib.extract_eq]
  show (⟨((s.drop a).take (e - a)).toArray⟩ : ByteArray) = _
  rw [tw_take p (s.drop a) (e - a) (by rw [List.length_drop]; omega) h3]
  rcases h4 with h4 | ⟨c, h4, h5⟩
  · left; rw [List.length_drop]; omega
  · right
    refine ⟨c, ?_, h5⟩
    rw [List.getElem?_drop, show a + (e - a) = e by omega]
    exact h4
theorem drop_all {s : Bytes} {a e : Nat} {p : UInt8 → Bool} (h1 : a ≤ e) (h2 : e < s.length) : ((s.drop a).take (e + 1 - a)).all p = (((s.drop a).take (e - a)).all p && p s[e]) := by
  rw [show e + 1 - a = (e - a) + 1 by omega, take_all p (s.drop a) (e - a) (by rw [List.length_drop]; omega)]
  congr 2
  rw [List.getElem_drop]
  congr 1; omega

set_option maxHeartbeats 2000000 in
theorem refTok_letter (s : Bytes) (a : Nat) (ha : a < s.length) (hs : s.length ≤ 281474976710656) (hl : lett s[a] = true) (w : World) :
    Calls Tryd.prog 26 #[.string (B s), .int .i64 a] w fun e w' => e = .returned (tkV (tok (s.drop a)) a) ∧ Below w.heap.size w w' := by
  have hsz : (B s).size = s.length := B_size s
  have hb : a < (B s).size := by rw [hsz]; exact ha
  have e1 : lettI (((B s)[a]'hb).toNat : Int) = true := hl
  have ht : tok (s.drop a) = if kwB (row (s.drop a)) then (3, row (s.drop a)) else if 16 < (row (s.drop a)).length then (0, []) else (1, row (s.drop a)) := by
    rw [drop_at ha]; exact tok_letter hl
  have HT := Lib.hid ht
  clear ht hl
  go_enter Tryd.func26, Tryd.ntmps26
  go_wp2_with fail
  refine (refLetter_calls _ _).mono ?_
  rintro e w1 ⟨rfl, rfl⟩
  go_wp2_with fail
  clear e1
  go_loop [5] (fun i => ∃ k : Nat, a ≤ k ∧ k ≤ s.length ∧ i = .int .i64 k ∧ Hid (((s.drop a).take (k - a)).all okC = true)) (fun i => s.length - (intOf i).toNat)
  case atStart => exact ⟨a, by omega, by omega, rfl, Lib.hid (by simp)⟩
  case round =>
    obtain ⟨k, hk1, hk2, rfl, H⟩ := hrel
    have fin : (k = s.length ∨ ∃ c, s[k]? = some c ∧ okC c = false) → (B s).extract a k = B (row (s.drop a)) := fun h => ext_row hk1 hk2 H.out h
    have FIN := Lib.hid fin
    clear fin
    by_cases hlt : k < s.length
    · have hb : k < (B s).size := by rw [hsz]; exact hlt
      have hsn := drop_all (p := okC) hk1 hlt
      have HS := Lib.hid hsn
      clear hsn
      by_cases e1 : lettI (((B s)[k]'hb).toNat : Int) = true
      · have HN := Lib.hid (show ((s.drop a).take (k + 1 - a)).all okC = true by rw [HS.out, H.out, okC_lett (show lett s[k] = true from e1)]; rfl)
        clear H HS FIN
        go_wp2_with fail
        refine (refLetter_calls _ _).mono ?_
        rintro e w1 ⟨rfl, rfl⟩
        go_wp2_with fail
        go_round
        case rel => exact ⟨k + 1, by omega, by omega, by go_num, HN⟩
        case measure => simp [intOf]; omega
      · simp only [Bool.not_eq_true] at e1
        by_cases e2 : digI (((B s)[k]'hb).toNat : Int) = true
        · have HN := Lib.hid (show ((s.drop a).take (k + 1 - a)).all okC = true by rw [HS.out, H.out, okC_dig (show dig s[k] = true from e2)]; rfl)
          clear H HS FIN
          go_wp2_with fail
          refine (refLetter_calls _ _).mono ?_
          rintro e w1 ⟨rfl, rfl⟩
          go_wp2_with fail
          refine (refDigit_calls _ _).mono ?_
          rintro e w1 ⟨rfl, rfl⟩
          go_wp2_with fail
          go_round
          case rel => exact ⟨k + 1, by omega, by omega, by go_num, HN⟩
          case measure => simp [intOf]; omega
        · simp only [Bool.not_eq_true] at e2
          cases e4 : ((((B s)[k]'hb).toNat : Int) == 95) with
          | true =>
            have HN := Lib.hid (show ((s.drop a).take (k + 1 - a)).all okC = true by rw [HS.out, H.out, show s[k] = 95 from u8_is (x := (B s)[k]'hb) (n := 95) (by decide) e4]; rfl)
            clear H HS FIN
            go_wp2_with fail
            refine (refLetter_calls _ _).mono ?_
            rintro e w1 ⟨rfl, rfl⟩
            go_wp2_with fail
            refine (refDigit_calls _ _).mono ?_
            rintro e w1 ⟨rfl, rfl⟩
            go_wp2_with fail
            go_round
            case rel => exact ⟨k + 1, by omega, by omega, by go_num, HN⟩
            case measure => simp [intOf]; omega
          | false =>
            have hne : s[k] ≠ 95 := u8_not (x := (B s)[k]'hb) (n := 95) (by decide) e4
            have hx := FIN.out (.inr ⟨s[k], List.getElem?_eq_getElem hlt, by unfold okC; rw [show lett s[k] = false from e1, show dig s[k] = false from e2]; simpa using hne⟩)
            have C3 := fun W => refReserved_calls (row (s.drop a)) W
            clear H HS FIN hne
            go_wp2_with fail
            refine (refLetter_calls _ _).mono ?_
            rintro e w1 ⟨rfl, rfl⟩
            go_wp2_with fail
            refine (refDigit_calls _ _).mono ?_
            rintro e w1 ⟨rfl, rfl⟩
            go_wp2_with fail
            refine (C3 _).mono ?_
            rintro e w5 ⟨rfl, hb5⟩
            have HB5 := Lib.hid (Below.trans ((Below.refl _ w).alloc (Nat.le_refl _) (.cells #[.int .i64 0, .string ⟨#[]⟩, .int .i64 0] 31)) (hb5.mono (by simp)))
            have hT := RTokAt.below (RTokAt.new w (.int .i64 0) (.string ⟨#[]⟩) (.int .i64 0)) hb5
            clear C3 hb5 hx
            generalize row (s.drop a) = r at *
            obtain ⟨y0, y1, y2⟩ := hT.at_
            have yf := hT.free
            have hy := hT
            unfold RTokAt at hy
            clear hT hy
            by_cases hk : kwB r = true
            · have hv : tok (s.drop a) = (3, r) := by rw [HT.out, if_pos hk]
              have HV := Lib.hid hv
              rw [hk]
              clear hk hv HT
              go_wp2_with fail
              exact bodyPost_ret (v := .agg #[.int .i64 3, .string (B r), .int .i64 a]) (by simp [results, Tryd.results26, go_sem, y0, y1, y2]) rfl ⟨by rw [HV.out]; rfl, ((HB5.out.setCell (p := ⟨w.heap.size, 0, none⟩) (Nat.le_refl _) _).setCell (p := ⟨w.heap.size, 1, none⟩) (Nat.le_refl _) _).setCell (p := ⟨w.heap.size, 2, none⟩) (Nat.le_refl _) _⟩
            · simp only [Bool.not_eq_true] at hk
              by_cases h16 : 16 < r.length
              · have hv : tok (s.drop a) = (0, []) := by rw [HT.out, if_neg (by simp [hk]), if_pos h16]
                have d1 : (16 : Int) < (r.length : Int) := by omega
                have HV := Lib.hid hv
                rw [hk]
                clear hk hv HT
                go_wp2_with fail
                exact bodyPost_ret (v := .agg #[.int .i64 0, .string ⟨#[]⟩, .int .i64 0]) (by simp [results, Tryd.results26, go_sem, y0, y1, y2]) rfl ⟨by rw [HV.out]; rfl, ((HB5.out.setCell (p := ⟨w.heap.size, 0, none⟩) (Nat.le_refl _) _).setCell (p := ⟨w.heap.size, 1, none⟩) (Nat.le_refl _) _).setCell (p := ⟨w.heap.size, 2, none⟩) (Nat.le_refl _) _⟩
              · have hv : tok (s.drop a) = (1, r) := by rw [HT.out, if_neg (by simp [hk]), if_neg h16]
                have d1 : ¬ (16 : Int) < (r.length : Int) := by omega
                have HV := Lib.hid hv
                rw [hk]
                clear hk hv HT
                go_wp2_with fail
                exact bodyPost_ret (v := .agg #[.int .i64 1, .string (B r), .int .i64 a]) (by simp [results, Tryd.results26, go_sem, y0, y1, y2]) rfl ⟨by rw [HV.out]; rfl, ((HB5.out.setCell (p := ⟨w.heap.size, 0, none⟩) (Nat.le_refl _) _).setCell (p := ⟨w.heap.size, 1, none⟩) (Nat.le_refl _) _).setCell (p := ⟨w.heap.size, 2, none⟩) (Nat.le_refl _) _⟩
    · obtain rfl : k = s.length := by omega
      have hx := FIN.out (.inl rfl)
      have C3 := fun W => refReserved_calls (row (s.drop a)) W
      clear FIN H
      go_wp2_with fail
      refine (C3 _).mono ?_
      rintro e w5 ⟨rfl, hb5⟩
      have HB5 := Lib.hid (Below.trans ((Below.refl _ w).alloc (Nat.le_refl _) (.cells #[.int .i64 0, .string ⟨#[]⟩, .int .i64 0] 31)) (hb5.mono (by simp)))
      have hT := RTokAt.below (RTokAt.new w (.int .i64 0) (.string ⟨#[]⟩) (.int .i64 0)) hb5
      clear C3 hb5 hx
      generalize row (s.drop a) = r at *
      obtain ⟨y0, y1, y2⟩ := hT.at_
      have yf := hT.free
      have hy := hT
      unfold RTokAt at hy
      clear hT hy
      by_cases hk : kwB r = true
      · have hv : tok (s.drop a) = (3, r) := by rw [HT.out, if_pos hk]
        have HV := Lib.hid hv
        rw [hk]
        clear hk hv HT
        go_wp2_with fail
        exact bodyPost_ret (v := .agg #[.int .i64 3, .string (B r), .int .i64 a]) (by simp [results, Tryd.results26, go_sem, y0, y1, y2]) rfl ⟨by rw [HV.out]; rfl, ((HB5.out.setCell (p := ⟨w.heap.size, 0, none⟩) (Nat.le_refl _) _).setCell (p := ⟨w.heap.size, 1, none⟩) (Nat.le_refl _) _).setCell (p := ⟨w.heap.size, 2, none⟩) (Nat.le_refl _) _⟩
      · simp only [Bool.not_eq_true] at hk
        by_cases h16 : 16 < r.length
        · have hv : tok (s.drop a) = (0, []) := by rw [HT.out, if_neg (by simp [hk]), if_pos h16]
          have d1 : (16 : Int) < (r.length : Int) := by omega
          have HV := Lib.hid hv
          rw [hk]
          clear hk hv HT
          go_wp2_with fail
          exact bodyPost_ret (v := .agg #[.int .i64 0, .string ⟨#[]⟩, .int .i64 0]) (by simp [results, Tryd.results26, go_sem, y0, y1, y2]) rfl ⟨by rw [HV.out]; rfl, ((HB5.out.setCell (p := ⟨w.heap.size, 0, none⟩) (Nat.le_refl _) _).setCell (p := ⟨w.heap.size, 1, none⟩) (Nat.le_refl _) _).setCell (p := ⟨w.heap.size, 2, none⟩) (Nat.le_refl _) _⟩
        · have hv : tok (s.drop a) = (1, r) := by rw [HT.out, if_neg (by simp [hk]), if_neg h16]
          have d1 : ¬ (16 : Int) < (r.length : Int) := by omega
          have HV := Lib.hid hv
          rw [hk]
          clear hk hv HT
          go_wp2_with fail
          exact bodyPost_ret (v := .agg #[.int .i64 1, .string (B r), .int .i64 a]) (by simp [results, Tryd.results26, go_sem, y0, y1, y2]) rfl ⟨by rw [HV.out]; rfl, ((HB5.out.setCell (p := ⟨w.heap.size, 0, none⟩) (Nat.le_refl _) _).setCell (p := ⟨w.heap.size, 1, none⟩) (Nat.le_refl _) _).setCell (p := ⟨w.heap.size, 2, none⟩) (Nat.le_refl _) _⟩
end Go.Proofs.YtkbmominplkdkaaDoor
