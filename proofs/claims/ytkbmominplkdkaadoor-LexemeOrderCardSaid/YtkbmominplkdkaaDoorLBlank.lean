/-
  blank: its contract.
-/
import Derived.Test.YtkbmominplkdkaaDoorLRefSkip
import Derived.Test.YtkbmominplkdkaaDoorLItems
namespace Go.Proofs.YtkbmominplkdkaaDoor
open Go Go.RowKit Go.Sort

theorem bl_nl {p : Bytes} {k : Nat} (b : Bool) (h : k < p.length) (hc : p[k] = 10) : blankB b (p.drop k) = blankB false (p.drop (k + 1)) := by rw [drop_at h, blankB, if_pos hc]
theorem bl_in {p : Bytes} {k : Nat} (h : k < p.length) (hc : p[k] ≠ 10) : blankB true (p.drop k) = blankB true (p.drop (k + 1)) := by rw [drop_at h, blankB, if_neg hc, if_pos rfl]
theorem bl_open {p : Bytes} {k : Nat} (h : k + 1 < p.length) (h1 : p[k] = 47) (h2 : p[k + 1] = 47) : blankB false (p.drop k) = blankB true (p.drop (k + 1)) := by
  rw [drop_at (show k < p.length by omega), blankB, if_neg (by rw [h1]; decide), if_neg (by simp), if_pos ⟨h1, by rw [drop_at h, h2]; rfl⟩]
theorem bl_head {p : Bytes} {k : Nat} (h2 : p.length ≤ k + 1 ∨ ∃ hb : k + 1 < p.length, p[k + 1] ≠ 47) : (p.drop (k + 1)).head? ≠ some 47 := by
  rcases h2 with h2 | ⟨hb, h2⟩
  · rw [List.drop_of_length_le h2]; simp
  · rw [drop_at hb]; simpa [List.getElem?_eq_getElem hb] using h2
theorem bl_white {p : Bytes} {k : Nat} (h : k < p.length) (hc : p[k] ≠ 10) (h1 : p[k] ≠ 47 ∨ (p.drop (k + 1)).head? ≠ some 47) (hw : whi p[k] = true) : blankB false (p.drop k) = blankB false (p.drop (k + 1)) := by
  rw [drop_at h, blankB, if_neg hc, if_neg (by simp), if_neg (by rintro ⟨h2, h3⟩; rcases h1 with h1 | h1; exact h1 h2; exact h1 h3), if_pos hw]
theorem bl_no {p : Bytes} {k : Nat} (h : k < p.length) (hc : p[k] ≠ 10) (h1 : p[k] ≠ 47 ∨ (p.drop (k + 1)).head? ≠ some 47) (hw : whi p[k] = false) : blankB false (p.drop k) = false := by
  rw [drop_at h, blankB, if_neg hc, if_neg (by simp), if_neg (by rintro ⟨h2, h3⟩; rcases h1 with h1 | h1; exact h1 h2; exact h1 h3), if_neg (by simp [hw])]

set_option maxHeartbeats 2000000 in
theorem blank_calls (p : Bytes) (hp : p.length ≤ 1000000) (w : World) :
    Calls Tryd.prog 19 #[.string (B p)] w fun e w' => e = .returned (.bool (blankB false p)) ∧ w = w' := by
  go_enter Tryd.func19, Tryd.ntmps19
  go_wp2_with fail
  go_loop [3, 4] (fun v i => ∃ (k : Nat) (b : Bool), k ≤ p.length ∧ i = .int .i64 k ∧ v = .bool b ∧ Hid (blankB b (p.drop k) = blankB false p)) (fun _ i => p.length - (intOf i).toNat)
  case atStart => exact ⟨0, false, by omega, rfl, rfl, Lib.hid rfl⟩
  case round =>
    obtain ⟨k, b, hk, rfl, rfl, H⟩ := hrel
    by_cases hlt : k < p.length
    · have hb : k < (B p).size := by rw [B_size]; exact hlt
      cases e1 : ((((B p)[k]'hb).toNat : Int) == 10) with
      | true =>
        have HN := Lib.hid ((bl_nl b hlt (u8_is (x := (B p)[k]'hb) (n := 10) (by decide) e1)).symm.trans H.out)
        clear H
        go_wp2_with fail
        go_round
        case rel => exact ⟨k + 1, false, by omega, by go_num, rfl, HN⟩
        case measure => simp [intOf]; omega
      | false =>
        have hc : p[k] ≠ 10 := u8_not (x := (B p)[k]'hb) (n := 10) (by decide) e1
        cases b with
        | true =>
          have HN := Lib.hid ((bl_in hlt hc).symm.trans H.out)
          clear H hc
          go_wp2_with fail
          go_round
          case rel => exact ⟨k + 1, true, by omega, by go_num, rfl, HN⟩
          case measure => simp [intOf]; omega
        | false =>
          have fin : ∀ (_ : p[k] ≠ 47 ∨ (p.drop (k + 1)).head? ≠ some 47), (whi p[k] = true → blankB false (p.drop (k + 1)) = blankB false p) ∧ (whi p[k] = false → blankB false p = false) := fun h1 =>
            ⟨fun hw => (bl_white hlt hc h1 hw).symm.trans H.out, fun hw => H.out.symm.trans (bl_no hlt hc h1 hw)⟩
          have FIN := Lib.hid fin
          clear fin
          cases e2 : ((((B p)[k]'hb).toNat : Int) == 47) with
          | true =>
            have h47 : p[k] = 47 := u8_is (x := (B p)[k]'hb) (n := 47) (by decide) e2
            have hw : whi p[k] = false := by rw [h47]; decide
            have i1 : ((((B p)[k]'hb).toNat : Int) != 32) = true := by rw [show (B p)[k]'hb = 47 from h47]; decide
            have i2 : ((((B p)[k]'hb).toNat : Int) != 9) = true := by rw [show (B p)[k]'hb = 47 from h47]; decide
            have i3 : ((((B p)[k]'hb).toNat : Int) != 13) = true := by rw [show (B p)[k]'hb = 47 from h47]; decide
            by_cases hl2 : k + 1 < p.length
            · have hb2 : k + 1 < (B p).size := by rw [B_size]; exact hl2
              have d1 : (k : Int) + 1 < (p.length : Int) := by omega
              have d2 : (0 : Int) ≤ (k : Int) + 1 := by omega
              cases e3 : ((((B p)[k + 1]'hb2).toNat : Int) == 47) with
              | true =>
                have HN := Lib.hid ((bl_open hl2 h47 (u8_is (x := (B p)[k + 1]'hb2) (n := 47) (by decide) e3)).symm.trans H.out)
                clear H hc FIN h47 hw
                go_wp2_with fail
                go_round
                case rel => exact ⟨k + 1, true, by omega, by go_num, rfl, HN⟩
                case measure => simp [intOf]; omega
              | false =>
                have HX := Lib.hid ((FIN.out (.inr (bl_head (.inr ⟨hl2, u8_not (x := (B p)[k + 1]'hb2) (n := 47) (by decide) e3⟩)))).2 hw)
                clear H hc FIN h47 hw
                go_wp2_with fail
                go_ret
                exact ⟨by rw [HX.out]; rfl, rfl⟩
            · have d1 : ¬ (k : Int) + 1 < (p.length : Int) := by omega
              have HX := Lib.hid ((FIN.out (.inr (bl_head (.inl (by omega))))).2 hw)
              clear H hc FIN h47 hw
              go_wp2_with fail
              go_ret
              exact ⟨by rw [HX.out]; rfl, rfl⟩
          | false =>
            have hne := u8_not (x := (B p)[k]'hb) (n := 47) (by decide) e2
            have FIN := Lib.hid (FIN.out (.inl hne))
            clear hne H
            by_cases hw : whi p[k] = true
            · have HN := Lib.hid (FIN.out.1 hw)
              rcases whi_ok hw with h | h | h | h
              · have i1 : ((((B p)[k]'hb).toNat : Int) != 32) = false := by rw [show (B p)[k]'hb = 32 from h]; decide
                clear hw h hc FIN
                go_wp2_with fail
                go_round
                case rel => exact ⟨k + 1, false, by omega, by go_num, rfl, HN⟩
                case measure => simp [intOf]; omega
              · have i1 : ((((B p)[k]'hb).toNat : Int) != 32) = true := by rw [show (B p)[k]'hb = 9 from h]; decide
                have i2 : ((((B p)[k]'hb).toNat : Int) != 9) = false := by rw [show (B p)[k]'hb = 9 from h]; decide
                clear hw h hc FIN
                go_wp2_with fail
                go_round
                case rel => exact ⟨k + 1, false, by omega, by go_num, rfl, HN⟩
                case measure => simp [intOf]; omega
              · have i1 : ((((B p)[k]'hb).toNat : Int) != 32) = true := by rw [show (B p)[k]'hb = 13 from h]; decide
                have i2 : ((((B p)[k]'hb).toNat : Int) != 9) = true := by rw [show (B p)[k]'hb = 13 from h]; decide
                have i3 : ((((B p)[k]'hb).toNat : Int) != 13) = false := by rw [show (B p)[k]'hb = 13 from h]; decide
                clear hw h hc FIN
                go_wp2_with fail
                go_round
                case rel => exact ⟨k + 1, false, by omega, by go_num, rfl, HN⟩
                case measure => simp [intOf]; omega
              · exact absurd h hc
            · simp only [Bool.not_eq_true] at hw
              have HX := Lib.hid (FIN.out.2 hw)
              have hne : ∀ n : Nat, n < 256 → whi (UInt8.ofNat n) = true → ((((B p)[k]'hb).toNat : Int) != (n : Int)) = true := by
                intro n hn h1
                rw [bne, Bool.not_eq_true', ← Bool.not_eq_true]
                intro he
                have h2 : p[k] = UInt8.ofNat n := u8_is (x := (B p)[k]'hb) hn he
                rw [h2, h1] at hw
                cases hw
              have i1 : ((((B p)[k]'hb).toNat : Int) != 32) = true := hne 32 (by decide) (by decide)
              have i2 : ((((B p)[k]'hb).toNat : Int) != 9) = true := hne 9 (by decide) (by decide)
              have i3 : ((((B p)[k]'hb).toNat : Int) != 13) = true := hne 13 (by decide) (by decide)
              clear hw hc FIN hne
              go_wp2_with fail
              go_ret
              exact ⟨by rw [HX.out]; rfl, rfl⟩
    · obtain rfl : k = p.length := by omega
      have HX := Lib.hid (show blankB false p = true by rw [← H.out, List.drop_of_length_le (Nat.le_refl _)]; cases b <;> rfl)
      go_wp2_with fail
      go_ret
      exact ⟨by rw [HX.out]; rfl, rfl⟩
end Go.Proofs.YtkbmominplkdkaaDoor
