/-
  The bytes' functions, keywords and signs: contracts.
-/
import Derived.Test.YtiboolnampnhfaaGreatDoorLBase
namespace Go.Proofs.YtiboolnampnhfaaGreatDoor.L4
open Go Go.RowKit Go.Sort

theorem letter_calls (c : Int) (w : World) : Calls Tryz.prog 118 #[.int .u8 c] w fun e w' => e = .returned (.bool (lettI c)) ∧ w = w' := by
  by_cases h1 : 65 ≤ c <;> by_cases h2 : c ≤ 90 <;> by_cases h3 : 97 ≤ c <;> by_cases h4 : c ≤ 122 <;> first | (exfalso; omega) |
    (go_enter Tryz.func118, Tryz.ntmps118
     go_wp2
     go_ret
     exact ⟨by simp [lettI, h1, h2, h3, h4], rfl⟩)
theorem digit_calls (c : Int) (w : World) : Calls Tryz.prog 119 #[.int .u8 c] w fun e w' => e = .returned (.bool (digI c)) ∧ w = w' := by
  by_cases h1 : 48 ≤ c <;> by_cases h2 : c ≤ 57 <;> first | (exfalso; omega) |
    (go_enter Tryz.func119, Tryz.ntmps119
     go_wp2
     go_ret
     exact ⟨by simp [digI, h1, h2], rfl⟩)
theorem white_calls (c : Int) (w : World) : Calls Tryz.prog 96 #[.int .u8 c] w fun e w' => e = .returned (.bool (whiI c)) ∧ w = w' := by
  rcases (show c = 32 ∨ c = 9 ∨ c = 13 ∨ c = 10 ∨ (c ≠ 32 ∧ c ≠ 9 ∧ c ≠ 13 ∧ c ≠ 10) from by omega) with rfl | rfl | rfl | rfl | ⟨h1, h2, h3, h4⟩
  · go_enter Tryz.func96, Tryz.ntmps96
    go_wp2
    go_ret
    exact ⟨rfl, rfl⟩
  · go_enter Tryz.func96, Tryz.ntmps96
    go_wp2
    go_ret
    exact ⟨rfl, rfl⟩
  · go_enter Tryz.func96, Tryz.ntmps96
    go_wp2
    go_ret
    exact ⟨rfl, rfl⟩
  · go_enter Tryz.func96, Tryz.ntmps96
    go_wp2
    go_ret
    exact ⟨rfl, rfl⟩
  have e1 : (c == 32) = false := by simpa using h1
  have e2 : (c == 9) = false := by simpa using h2
  have e3 : (c == 13) = false := by simpa using h3
  have e4 : (c == 10) = false := by simpa using h4
  clear h1 h2 h3 h4
  go_enter Tryz.func96, Tryz.ntmps96
  go_wp2
  go_ret
  exact ⟨by simp [whiI, e1, e2, e3, e4], rfl⟩

theorem kwB_no {s : Bytes} (h : ∀ j, j < 15 → kwsL.getD j [] ≠ s) : kwB s = false := by
  unfold kwB
  rw [← Bool.not_eq_true, List.contains_iff_mem]
  intro hm
  obtain ⟨i, hi, he⟩ := List.getElem_of_mem hm
  have hi' : i < 15 := hi
  refine h i hi' ?_
  rw [List.getD_eq_getElem?_getD, List.getElem?_eq_getElem hi]
  exact he
theorem kwB_yes {s : Bytes} {k : Nat} (hk : k < 15) (h : (s == kwsL[k]?.getD []) = true) : kwB s = true := by
  unfold kwB
  rw [List.contains_iff_mem]
  have hi : k < kwsL.length := hk
  rw [List.getElem?_eq_getElem hi, Option.getD_some] at h
  rw [beq_iff_eq] at h
  rw [h]
  exact List.getElem_mem hi

theorem reserved_calls (s : Bytes) (w : World) (hG : GlobKW w) :
    Calls Tryz.prog 100 #[.string (B s)] w fun e w' => e = .returned (.bool (kwB s)) ∧ w = w' := by
  obtain ⟨c0, c1, c2, c3, c4, c5, c6, c7, c8, c9, c10, c11, c12, c13, c14⟩ := hG
  go_enter Tryz.func100, Tryz.ntmps100
  go_wp2_with fail
  rw [← kwArr_is]
  clear c0 c1 c2 c3 c4 c5 c6 c7 c8 c9 c10 c11 c12 c13 c14
  go_loop [6] (fun i => ∃ k : Nat, k ≤ 15 ∧ i = .int .i64 k ∧ ∀ j, j < k → kwsL.getD j [] ≠ s) (fun i => 15 - (intOf i).toNat)
  case atStart => exact ⟨0, by omega, rfl, fun j hj => by omega⟩
  case round =>
    obtain ⟨k, hk, rfl, hno⟩ := hrel
    have H := Lib.hid hno
    clear hno
    by_cases hlt : k < 15
    · have hi := kw_at k hlt
      go_wp2_with fail
      · rename_i h _
        go_ret
        exact ⟨by rw [kwB_yes hlt h]; rfl, rfl⟩
      · rename_i h
        go_round
        case rel =>
          refine ⟨k + 1, by omega, by go_num, fun j hj => ?_⟩
          rcases Nat.lt_or_ge j k with h1 | h1
          · exact H.out j h1
          · obtain rfl : j = k := by omega
            intro e
            rw [List.getD_eq_getElem?_getD] at e
            rw [e] at h
            simp at h
        case measure => simp [intOf]; omega
    · obtain rfl : k = 15 := by omega
      go_wp2_with fail
      go_ret
      exact ⟨by rw [kwB_no H.out]; rfl, rfl⟩

theorem kwB_yes' {s : Bytes} {k : Nat} (hk : k < 15) (h : (kwsL[k]?.getD [] == s) = true) : kwB s = true := kwB_yes hk (by rw [beq_iff_eq] at h ⊢; exact h.symm)
end Go.Proofs.YtiboolnampnhfaaGreatDoor.L4
