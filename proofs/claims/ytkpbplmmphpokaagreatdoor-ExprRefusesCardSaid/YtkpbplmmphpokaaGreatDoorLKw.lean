/-
  The bytes' functions, keywords and signs: contracts.
-/
import Derived.Test.YtkpbplmmphpokaaGreatDoorLBase
namespace Go.Proofs.YtkpbplmmphpokaaGreatDoor.L4
open Go Go.RowKit Go.Sort

theorem letter_calls (c : Int) (w : World) : Calls Tryz.prog 196 #[.int .u8 c] w fun e w' => e = .returned (.bool (lettI c)) ∧ w = w' := by
  by_cases h1 : 65 ≤ c <;> by_cases h2 : c ≤ 90 <;> by_cases h3 : 97 ≤ c <;> by_cases h4 : c ≤ 122 <;> first | (exfalso; omega) |
    (go_enter Tryz.func196, Tryz.ntmps196
     go_wp2
     go_ret
     exact ⟨by simp [lettI, h1, h2, h3, h4], rfl⟩)
theorem digit_calls (c : Int) (w : World) : Calls Tryz.prog 197 #[.int .u8 c] w fun e w' => e = .returned (.bool (digI c)) ∧ w = w' := by
  by_cases h1 : 48 ≤ c <;> by_cases h2 : c ≤ 57 <;> first | (exfalso; omega) |
    (go_enter Tryz.func197, Tryz.ntmps197
     go_wp2
     go_ret
     exact ⟨by simp [digI, h1, h2], rfl⟩)
theorem white_calls (c : Int) (w : World) : Calls Tryz.prog 159 #[.int .u8 c] w fun e w' => e = .returned (.bool (whiI c)) ∧ w = w' := by
  rcases (show c = 32 ∨ c = 9 ∨ c = 13 ∨ c = 10 ∨ (c ≠ 32 ∧ c ≠ 9 ∧ c ≠ 13 ∧ c ≠ 10) from by omega) with rfl | rfl | rfl | rfl | ⟨h1, h2, h3, h4⟩
  · go_enter Tryz.func159, Tryz.ntmps159
    go_wp2
    go_ret
    exact ⟨rfl, rfl⟩
  · go_enter Tryz.func159, Tryz.ntmps159
    go_wp2
    go_ret
    exact ⟨rfl, rfl⟩
  · go_enter Tryz.func159, Tryz.ntmps159
    go_wp2
    go_ret
    exact ⟨rfl, rfl⟩
  · go_enter Tryz.func159, Tryz.ntmps159
    go_wp2
    go_ret
    exact ⟨rfl, rfl⟩
  have e1 : (c == 32) = false := by simpa using h1
  have e2 : (c == 9) = false := by simpa using h2
  have e3 : (c == 13) = false := by simpa using h3
  have e4 : (c == 10) = false := by simpa using h4
  clear h1 h2 h3 h4
  go_enter Tryz.func159, Tryz.ntmps159
  go_wp2
  go_ret
  exact ⟨by simp [whiI, e1, e2, e3, e4], rfl⟩

theorem kwB_no {s : Bytes} (h : ∀ j, j < 15 → kwsL.getD j [] ≠ s) : kwB s = false := by
  unfold kwB
  rw [← Bool.not_eq_true, List.contains_iff_mem]
  intro hm
  obtain ⟨i, hi, he⟩ := List.getElem_of_mem hm
  have hi' : i < 15 := hi
  refine h i hi' ?_
  rw [List.getD_eq_getElem?_getD, List.getElem?_eq_getElem hi]
  exact he
theorem kwB_yes {s : Bytes} {k : Nat} (hk : k < 15) (h : (s == kwsL[k]?.getD []) = true) : kwB s = true := by
  unfold kwB
  rw [List.contains_iff_mem]
  have hi : k < kwsL.length := hk
  rw [List.getElem?_eq_getElem hi, Option.getD_some] at h
  rw [beq_iff_eq] at h
  rw [h]
  exact List.getElem_mem hi

theorem reserved_calls (s : Bytes) (w : World) (hG : GlobKW w) :
    Calls Tryz.prog 163 #[.string (B s)] w fun e w' => e = .returned (.bool (kwB s)) ∧ w = w' := by
  obtain ⟨c0, c1, c2, c3, c4, c5, c6, c7, c8, c9, c10, c11, c12, c13, c14⟩ := hG
  go_enter Tryz.func163, Tryz.ntmps163
  go_wp2_with fail
  rw [← kwArr_is]
  clear c0 c1 c2 c3 c4 c5 c6 c7 c8 c9 c10 c11 c12 c13 c14
  go_loop [6] (fun i => ∃ k : Nat, k ≤ 15 ∧ i = .int .i64 k ∧ ∀ j, j < k → kwsL.getD j [] ≠ s) (fun i => 15 - (intOf i).toNat)
  case atStart => exact ⟨0, by omega, rfl, fun j hj => by omega⟩
  case round =>
    obtain ⟨k, hk, rfl, hno⟩ := hrel
    have H := Lib.hid hno
    clear hno
    by_cases hlt : k < 15
    · have hi := kw_at k hlt
      go_wp2_with fail
      · rename_i h _
        go_ret
        exact ⟨by rw [kwB_yes hlt h]; rfl, rfl⟩
      · rename_i h
        go_round
        case rel =>
          refine ⟨k + 1, by omega, by go_num, fun j hj => ?_⟩
          rcases Nat.lt_or_ge j k with h1 | h1
          · exact H.out j h1
          · obtain rfl : j = k := by omega
            intro e
            rw [List.getD_eq_getElem?_getD] at e
            rw [e] at h
            simp at h
        case measure => simp [intOf]; omega
    · obtain rfl : k = 15 := by omega
      go_wp2_with fail
      go_ret
      exact ⟨by rw [kwB_no H.out]; rfl, rfl⟩

theorem refKeywords_calls (w : World) :
    Calls Tryz.prog 147 #[] w fun e w' => e = .returned (.slice (some ⟨w.heap.size, 0, none⟩) 15 15) ∧ Below w.heap.size w w' ∧ (∀ k, k < 15 → w'.cell? ⟨w.heap.size, k, none⟩ = some (.string (B (kwsL.getD k [])))) := by
  go_enter Tryz.func147, Tryz.ntmps147
  go_wp2
  go_ret
  refine ⟨rfl, (Below.refl _ w).alloc (Nat.le_refl _) _, fun k hk => ?_⟩
  rw [cell_of_row _ _ k _ _ _ (heap_alloc_new w _)]
  match k, hk with
  | 0, _ | 1, _ | 2, _ | 3, _ | 4, _ | 5, _ | 6, _ | 7, _ | 8, _ | 9, _ | 10, _ | 11, _ | 12, _ | 13, _ | 14, _ => rfl
theorem kwB_yes' {s : Bytes} {k : Nat} (hk : k < 15) (h : (kwsL[k]?.getD [] == s) = true) : kwB s = true := kwB_yes hk (by rw [beq_iff_eq] at h ⊢; exact h.symm)
theorem refReserved_calls (s : Bytes) (w : World) :
    Calls Tryz.prog 100 #[.string (B s)] w fun e w' => e = .returned (.bool (kwB s)) ∧ Below w.heap.size w w' := by
  go_enter Tryz.func100, Tryz.ntmps100
  go_wp2_with fail
  refine (refKeywords_calls _).mono ?_
  rintro e w1 ⟨rfl, hb, hc⟩
  have HB := Lib.hid hb
  have HC := Lib.hid hc
  clear hb hc
  go_wp2_with fail
  go_loop [4] (fun i => ∃ k : Nat, k ≤ 15 ∧ i = .int .i64 k ∧ ∀ j, j < k → kwsL.getD j [] ≠ s) (fun i => 15 - (intOf i).toNat)
  case atStart => exact ⟨0, by omega, rfl, fun j hj => by omega⟩
  case round =>
    obtain ⟨k, hk, rfl, hno⟩ := hrel
    have H := Lib.hid hno
    clear hno
    by_cases hlt : k < 15
    · have hi := HC.out k hlt
      go_wp2_with fail
      · rename_i h _
        go_ret
        exact ⟨by rw [kwB_yes' hlt h]; rfl, HB.out⟩
      · rename_i h
        go_round
        case rel =>
          refine ⟨k + 1, by omega, by go_num, fun j hj => ?_⟩
          rcases Nat.lt_or_ge j k with h1 | h1
          · exact H.out j h1
          · obtain rfl : j = k := by omega
            intro e
            rw [List.getD_eq_getElem?_getD] at e
            rw [e] at h
            simp at h
        case measure => simp [intOf]; omega
    · obtain rfl : k = 15 := by omega
      go_wp2_with fail
      go_ret
      exact ⟨by rw [kwB_no H.out]; rfl, HB.out⟩
end Go.Proofs.YtkpbplmmphpokaaGreatDoor.L4
