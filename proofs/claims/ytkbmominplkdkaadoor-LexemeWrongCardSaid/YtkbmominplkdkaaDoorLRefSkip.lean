/-
  The reference's skip: its contract.
-/
import Derived.Test.YtkbmominplkdkaaDoorLSkip
namespace Go.Proofs.YtkbmominplkdkaaDoor
open Go Go.RowKit Go.Sort

theorem sk_true {s : Bytes} {b : Nat} (h : b < s.length) (hc : s[b] ≠ 10) : b + skN true (s.drop b) = b + 1 + skN true (s.drop (b + 1)) := by
  rw [drop_at h, skN, if_neg hc]; omega
theorem sk_back {s : Bytes} {b : Nat} (h : b < s.length) (hc : s[b] = 10) : b + skN true (s.drop b) = skAt s b := by
  unfold skAt; rw [drop_at h, hc, skN, if_pos rfl, sk_white (by decide)]
theorem sk_begin {s : Bytes} {a b : Nat} (h : b < s.length) (hb : b = a + 1) (h1 : s[a] = 47) (h2 : s[b] = 47) : skAt s a = a + skN true (s.drop a) := by
  subst hb
  unfold skAt
  rw [drop_at (show a < s.length by omega), drop_at h, h1, h2, sk_open, skN, if_neg (by decide), skN, if_neg (by decide)]; omega
theorem skAt_stay {s : Bytes} {a b : Nat} (h : a < s.length) (hw : whi s[a] = false) (hb : b = a + 1) (h2 : s[a] ≠ 47 ∨ s.length ≤ b ∨ ∃ hb : b < s.length, s[b] ≠ 47) : skAt s a = a := by
  subst hb
  unfold skAt
  rw [drop_at h, sk_none hw]
  · rfl
  · rintro ⟨h3, h4⟩
    rcases h2 with h2 | h2 | ⟨hb, h2⟩
    · exact h2 h3
    · rw [List.drop_of_length_le h2] at h4; cases h4
    · rw [drop_at hb] at h4; simp at h4; exact h2 (by simpa [List.getElem?_eq_getElem hb] using h4)
theorem u8_is {x : UInt8} {n : Nat} (h : n < 256) (he : ((x.toNat : Int) == (n : Int)) = true) : x = UInt8.ofNat n := by
  apply UInt8.toNat_inj.1
  rw [UInt8.toNat_ofNat', Nat.mod_eq_of_lt (by omega)]
  simp at he; omega
theorem u8_not {x : UInt8} {n : Nat} (h : n < 256) (he : ((x.toNat : Int) == (n : Int)) = false) : x ≠ UInt8.ofNat n := by
  rintro rfl
  rw [UInt8.toNat_ofNat', Nat.mod_eq_of_lt (by omega)] at he
  simp at he

set_option maxHeartbeats 1000000 in
theorem refSkip_calls (s : Bytes) (a0 : Nat) (h0 : a0 ≤ s.length) (hs : s.length ≤ 281474976710656) (w : World) :
    Calls Tryd.prog 25 #[.string (B s), .int .i64 a0] w fun e w' => e = .returned (.int .i64 (skAt s a0)) ∧ w = w' := by
  go_enter Tryd.func25, Tryd.ntmps25
  try simp only [List.append_eq, List.cons_append, List.nil_append]
  go_wp2_with fail
  go_loop [1] (fun i => ∃ a : Nat, a ≤ s.length ∧ i = .int .i64 a ∧ Hid (skAt s a = skAt s a0)) (fun i => s.length - (intOf i).toNat)
  case atStart => exact ⟨a0, h0, rfl, Lib.hid rfl⟩
  case round =>
    obtain ⟨a, ha, rfl, HE⟩ := hrel
    by_cases hlt : a < s.length
    · have hb : a < (B s).size := by rw [B_size]; exact hlt
      by_cases e1 : whi ((B s)[a]'hb) = true
      · have HE2 := Lib.hid ((skAt_white hlt (show whi s[a] = true from e1)).trans HE.out)
        clear HE
        rcases whi_ok e1 with hw | hw | hw | hw
        · have hx : (B s)[a]'hb = 32 := hw
          have i0 : ((((B s)[a]'hb).toNat : Int) == 32) = true := by rw [hx]; decide
          have HX := Lib.hid hx
          clear hx hw
          go_wp2_with fail
          go_round
          case rel => exact ⟨a + 1, by omega, by go_num, HE2⟩
          case measure => simp [intOf]; omega
        · have hx : (B s)[a]'hb = 9 := hw
          have i0 : ((((B s)[a]'hb).toNat : Int) == 32) = false := by rw [hx]; decide
          have i1 : ((((B s)[a]'hb).toNat : Int) == 9) = true := by rw [hx]; decide
          have HX := Lib.hid hx
          clear hx hw
          go_wp2_with fail
          go_round
          case rel => exact ⟨a + 1, by omega, by go_num, HE2⟩
          case measure => simp [intOf]; omega
        · have hx : (B s)[a]'hb = 13 := hw
          have i0 : ((((B s)[a]'hb).toNat : Int) == 32) = false := by rw [hx]; decide
          have i1 : ((((B s)[a]'hb).toNat : Int) == 9) = false := by rw [hx]; decide
          have i2 : ((((B s)[a]'hb).toNat : Int) == 13) = true := by rw [hx]; decide
          have HX := Lib.hid hx
          clear hx hw
          go_wp2_with fail
          go_round
          case rel => exact ⟨a + 1, by omega, by go_num, HE2⟩
          case measure => simp [intOf]; omega
        · have hx : (B s)[a]'hb = 10 := hw
          have i0 : ((((B s)[a]'hb).toNat : Int) == 32) = false := by rw [hx]; decide
          have i1 : ((((B s)[a]'hb).toNat : Int) == 9) = false := by rw [hx]; decide
          have i2 : ((((B s)[a]'hb).toNat : Int) == 13) = false := by rw [hx]; decide
          have i3 : ((((B s)[a]'hb).toNat : Int) == 10) = true := by rw [hx]; decide
          have HX := Lib.hid hx
          clear hx hw
          go_wp2_with fail
          go_round
          case rel => exact ⟨a + 1, by omega, by go_num, HE2⟩
          case measure => simp [intOf]; omega
      · simp only [Bool.not_eq_true] at e1
        have hne : ∀ n : Nat, n < 256 → whi (UInt8.ofNat n) = true → ((((B s)[a]'hb).toNat : Int) == (n : Int)) = false := by
          intro n hn hw
          rw [← Bool.not_eq_true]
          intro he
          rw [u8_is hn he, hw] at e1
          cases e1
        have i0 : ((((B s)[a]'hb).toNat : Int) == 32) = false := hne 32 (by decide) (by decide)
        have i1 : ((((B s)[a]'hb).toNat : Int) == 9) = false := hne 9 (by decide) (by decide)
        have i2 : ((((B s)[a]'hb).toNat : Int) == 13) = false := hne 13 (by decide) (by decide)
        have i3 : ((((B s)[a]'hb).toNat : Int) == 10) = false := hne 10 (by decide) (by decide)
        clear hne
        cases j1 : ((((B s)[a]'hb).toNat : Int) == 47) with
        | false =>
          have HX := Lib.hid (HE.out.symm.trans (skAt_stay hlt e1 rfl (.inl (u8_not (by decide) j1))))
          clear HE e1
          go_wp2_with fail
          go_ret
          exact ⟨by rw [HX.out]; rfl, rfl⟩
        | true =>
          by_cases hlb : a + 1 < s.length
          · have hb2 : a + 1 < (B s).size := by rw [B_size]; exact hlb
            have d1 : (a : Int) + 1 < (s.length : Int) := by omega
            have d2 : (0 : Int) ≤ (a : Int) + 1 := by omega
            cases j2 : ((((B s)[a + 1]'hb2).toNat : Int) == 47) with
            | false =>
              have HX := Lib.hid (HE.out.symm.trans (skAt_stay hlt e1 rfl (.inr (.inr ⟨hlb, u8_not (by decide) j2⟩))))
              clear HE e1
              go_wp2_with fail
              go_ret
              exact ⟨by rw [HX.out]; rfl, rfl⟩
            | true =>
              have hb1 : s[a] = 47 := u8_is (by decide) j1
              have HN := Lib.hid ((sk_begin hlb rfl hb1 (u8_is (by decide) j2)).symm.trans HE.out)
              have HB1 := Lib.hid hb1
              clear HE e1 hb1
              go_wp2_with fail
              go_loop [1] (fun i => ∃ b : Nat, a ≤ b ∧ b ≤ s.length ∧ i = .int .i64 b ∧ Hid (b + skN true (s.drop b) = skAt s a0)) (fun i => s.length - (intOf i).toNat)
              case atStart => exact ⟨a, by omega, by omega, rfl, HN⟩
              case round =>
                obtain ⟨d, hd1, hd2, rfl, HD⟩ := hrel
                by_cases hld : d < s.length
                · have hb3 : d < (B s).size := by rw [B_size]; exact hld
                  cases j3 : ((((B s)[d]'hb3).toNat : Int) != 10) with
                  | true =>
                    have HN := Lib.hid ((sk_true hld (u8_not (x := (B s)[d]'hb3) (n := 10) (by decide) (by simpa [bne] using j3))).symm.trans HD.out)
                    clear HD
                    go_wp2_with fail
                    go_round
                    case rel => exact ⟨d + 1, by omega, by omega, by go_num, HN⟩
                    case measure => simp [intOf]; omega
                  | false =>
                    have hc : s[d] = 10 := u8_is (x := (B s)[d]'hb3) (n := 10) (by decide) (by simpa [bne] using j3)
                    have HN := Lib.hid ((sk_back hld hc).symm.trans HD.out)
                    have hda : a < d := by
                      rcases Nat.lt_or_ge a d with h | h
                      · exact h
                      · obtain rfl : d = a := by omega
                        rw [HB1.out] at hc
                        exact absurd hc (by decide)
                    clear HD hc
                    go_wp2_with fail
                    go_round
                    case rel => exact ⟨d, by omega, rfl, HN⟩
                    case measure => simp [intOf]; omega
                · obtain rfl : d = s.length := by omega
                  have HN := Lib.hid (show skAt s s.length = skAt s a0 by rw [← HD.out, skAt_end, List.drop_of_length_le (Nat.le_refl _)]; rfl)
                  clear HD
                  go_wp2_with fail
                  go_round
                  case rel => exact ⟨s.length, by omega, rfl, HN⟩
                  case measure => simp [intOf]; omega
          · have d1 : ¬ ((a : Int) + 1 < (s.length : Int)) := by omega
            have HX := Lib.hid (HE.out.symm.trans (skAt_stay hlt e1 rfl (.inr (.inl (by omega)))))
            clear HE e1
            go_wp2_with fail
            go_ret
            exact ⟨by rw [HX.out]; rfl, rfl⟩
    · obtain rfl : a = s.length := by omega
      have HX := Lib.hid (HE.out.symm.trans skAt_end)
      go_wp2_with fail
      go_ret
      exact ⟨by rw [HX.out]; rfl, rfl⟩
end Go.Proofs.YtkbmominplkdkaaDoor
