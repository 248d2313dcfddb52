/-
  letter, digit: contracts, of both.
-/
import Derived.Test.YtodicpnojcaanaaDoorSBox
namespace Go.Proofs.YtodicpnojcaanaaDoor
open Go Go.RowKit

theorem letter_calls (c : Int) (w : World) : Calls Tryd.prog 41 #[.int .u8 c] w fun e w' => e = .returned (.bool (lettI c)) ∧ w = w' := by
  by_cases h1 : 65 ≤ c <;> by_cases h2 : c ≤ 90 <;> by_cases h3 : 97 ≤ c <;> by_cases h4 : c ≤ 122 <;> first | (exfalso; omega) |
    (go_enter Tryd.func41, Tryd.ntmps41
     go_wp2
     go_ret
     exact ⟨by simp [lettI, h1, h2, h3, h4], rfl⟩)
theorem digit_calls (c : Int) (w : World) : Calls Tryd.prog 43 #[.int .u8 c] w fun e w' => e = .returned (.bool (digI c)) ∧ w = w' := by
  by_cases h1 : 48 ≤ c <;> by_cases h2 : c ≤ 57 <;> first | (exfalso; omega) |
    (go_enter Tryd.func43, Tryd.ntmps43
     go_wp2
     go_ret
     exact ⟨by simp [digI, h1, h2], rfl⟩)
theorem refLetter_calls (c : Int) (w : World) : Calls Tryd.prog 44 #[.int .u8 c] w fun e w' => e = .returned (.bool (lettI c)) ∧ w = w' := by
  by_cases h1 : 65 ≤ c <;> by_cases h2 : c ≤ 90 <;> by_cases h3 : 97 ≤ c <;> by_cases h4 : c ≤ 122 <;> first | (exfalso; omega) |
    (go_enter Tryd.func44, Tryd.ntmps44
     go_wp2
     go_ret
     exact ⟨by simp [lettI, h1, h2, h3, h4], rfl⟩)
theorem refDigit_calls (c : Int) (w : World) : Calls Tryd.prog 45 #[.int .u8 c] w fun e w' => e = .returned (.bool (digI c)) ∧ w = w' := by
  by_cases h1 : 48 ≤ c <;> by_cases h2 : c ≤ 57 <;> first | (exfalso; omega) |
    (go_enter Tryd.func45, Tryd.ntmps45
     go_wp2
     go_ret
     exact ⟨by simp [digI, h1, h2], rfl⟩)
theorem varType_calls (t : Int) (w : World) : Calls Tryd.prog 87 #[.int .i64 t] w fun e w' => e = .returned (.bool (typB t)) ∧ w = w' := by
  by_cases h1 : 1 ≤ t <;> by_cases h2 : t ≤ 3 <;> first | (exfalso; omega) |
    (go_enter Tryd.func87, Tryd.ntmps87
     go_wp2
     go_ret
     exact ⟨by simp [typB, h1, h2], rfl⟩)
theorem typ_calls (t : Int) (w : World) : Calls Tryd.prog 81 #[.int .i64 t] w fun e w' => e = .returned (.bool (typB t)) ∧ w = w' := by
  rcases (show t = 1 ∨ t = 2 ∨ t = 3 ∨ ¬ (1 ≤ t ∧ t ≤ 3) from by omega) with rfl | rfl | rfl | h
  · go_enter Tryd.func81, Tryd.ntmps81
    go_wp2
    go_ret
    exact ⟨by simp [typB], rfl⟩
  · go_enter Tryd.func81, Tryd.ntmps81
    go_wp2
    go_ret
    exact ⟨by simp [typB], rfl⟩
  · go_enter Tryd.func81, Tryd.ntmps81
    go_wp2
    go_ret
    exact ⟨by simp [typB], rfl⟩
  · have e1 : (t == 1) = false := by simp; omega
    have e2 : (t == 2) = false := by simp; omega
    have e3 : (t == 3) = false := by simp; omega
    have e4 : typB t = false := by simp [typB]; omega
    have H4 := Lib.hid e4
    clear e4 h
    go_enter Tryd.func81, Tryd.ntmps81
    go_wp2
    go_ret
    rw [H4.out]
    exact ⟨rfl, rfl⟩
end Go.Proofs.YtodicpnojcaanaaDoor
