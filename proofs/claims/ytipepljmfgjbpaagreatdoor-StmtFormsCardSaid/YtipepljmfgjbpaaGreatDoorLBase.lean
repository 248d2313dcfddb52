/-
  What the texts of this seat share: texts as values, what the listed variables hold, the bytes' functions, keywords and signs: contracts.
  The bytes' functions, keywords and signs: contracts.
-/
import Derived.Test.YtipepljmfgjbpaaGreatDoorProg
import Derived.Test.YtipepljmfgjbpaaGreatDoorLMath
import Derived.WalkKit
import Derived.WalkSpells
import Derived.IntWalk
import Derived.Below
import Derived.LoopTactic
import Derived.Lib.QuietBelow
import Derived.WalkSmall
import Derived.Maps.AppendAt
namespace Go.Proofs.YtipepljmfgjbpaaGreatDoor.L4
open Go Go.RowKit Go.Sort

/-- A text of bytes as a string's value. -/
abbrev B (l : Bytes) : ByteArray := ⟨l.toArray⟩
theorem after {w W W' : World} (h : Below w.heap.size w W) (hb : Below W.heap.size W W') : Below w.heap.size w W' := h.trans (hb.mono h.size)
theorem gTab : Tryz.prog.globalNamed "internal/strconv.uint64pow10" = some 4 := by kernel_rfl
def kwArr : Value := Value.agg #[.string ⟨#[102, 117, 110, 99]⟩, .string ⟨#[118, 97, 114]⟩, .string ⟨#[105, 102]⟩, .string ⟨#[101, 108, 115, 101]⟩, .string ⟨#[119, 104, 105, 108, 101]⟩, .string ⟨#[114, 101, 116, 117, 114, 110]⟩, .string ⟨#[112, 114, 105, 110, 116]⟩, .string ⟨#[114, 101, 97, 100]⟩, .string ⟨#[110, 101, 119]⟩, .string ⟨#[108, 101, 110]⟩, .string ⟨#[105, 110, 116]⟩, .string ⟨#[98, 111, 111, 108]⟩, .string ⟨#[97, 114, 114, 97, 121]⟩, .string ⟨#[116, 114, 117, 101]⟩, .string ⟨#[102, 97, 108, 115, 101]⟩]
theorem kwArr_is : kwArr = Value.agg #[.string ⟨#[102, 117, 110, 99]⟩, .string ⟨#[118, 97, 114]⟩, .string ⟨#[105, 102]⟩, .string ⟨#[101, 108, 115, 101]⟩, .string ⟨#[119, 104, 105, 108, 101]⟩, .string ⟨#[114, 101, 116, 117, 114, 110]⟩, .string ⟨#[112, 114, 105, 110, 116]⟩, .string ⟨#[114, 101, 97, 100]⟩, .string ⟨#[110, 101, 119]⟩, .string ⟨#[108, 101, 110]⟩, .string ⟨#[105, 110, 116]⟩, .string ⟨#[98, 111, 111, 108]⟩, .string ⟨#[97, 114, 114, 97, 121]⟩, .string ⟨#[116, 114, 117, 101]⟩, .string ⟨#[102, 97, 108, 115, 101]⟩] := rfl
set_option maxRecDepth 100000 in
theorem kwi_0 : ∀ w : World, (Instr.index 107 kwArr (.int .i64 0)).run Tryz.prog w = .ok (.string ⟨#[102, 117, 110, 99]⟩) w := fun _ => by kernel_rfl
set_option maxRecDepth 100000 in
theorem kwi_1 : ∀ w : World, (Instr.index 107 kwArr (.int .i64 1)).run Tryz.prog w = .ok (.string ⟨#[118, 97, 114]⟩) w := fun _ => by kernel_rfl
set_option maxRecDepth 100000 in
theorem kwi_2 : ∀ w : World, (Instr.index 107 kwArr (.int .i64 2)).run Tryz.prog w = .ok (.string ⟨#[105, 102]⟩) w := fun _ => by kernel_rfl
set_option maxRecDepth 100000 in
theorem kwi_3 : ∀ w : World, (Instr.index 107 kwArr (.int .i64 3)).run Tryz.prog w = .ok (.string ⟨#[101, 108, 115, 101]⟩) w := fun _ => by kernel_rfl
set_option maxRecDepth 100000 in
theorem kwi_4 : ∀ w : World, (Instr.index 107 kwArr (.int .i64 4)).run Tryz.prog w = .ok (.string ⟨#[119, 104, 105, 108, 101]⟩) w := fun _ => by kernel_rfl
set_option maxRecDepth 100000 in
theorem kwi_5 : ∀ w : World, (Instr.index 107 kwArr (.int .i64 5)).run Tryz.prog w = .ok (.string ⟨#[114, 101, 116, 117, 114, 110]⟩) w := fun _ => by kernel_rfl
set_option maxRecDepth 100000 in
theorem kwi_6 : ∀ w : World, (Instr.index 107 kwArr (.int .i64 6)).run Tryz.prog w = .ok (.string ⟨#[112, 114, 105, 110, 116]⟩) w := fun _ => by kernel_rfl
set_option maxRecDepth 100000 in
theorem kwi_7 : ∀ w : World, (Instr.index 107 kwArr (.int .i64 7)).run Tryz.prog w = .ok (.string ⟨#[114, 101, 97, 100]⟩) w := fun _ => by kernel_rfl
set_option maxRecDepth 100000 in
theorem kwi_8 : ∀ w : World, (Instr.index 107 kwArr (.int .i64 8)).run Tryz.prog w = .ok (.string ⟨#[110, 101, 119]⟩) w := fun _ => by kernel_rfl
set_option maxRecDepth 100000 in
theorem kwi_9 : ∀ w : World, (Instr.index 107 kwArr (.int .i64 9)).run Tryz.prog w = .ok (.string ⟨#[108, 101, 110]⟩) w := fun _ => by kernel_rfl
set_option maxRecDepth 100000 in
theorem kwi_10 : ∀ w : World, (Instr.index 107 kwArr (.int .i64 10)).run Tryz.prog w = .ok (.string ⟨#[105, 110, 116]⟩) w := fun _ => by kernel_rfl
set_option maxRecDepth 100000 in
theorem kwi_11 : ∀ w : World, (Instr.index 107 kwArr (.int .i64 11)).run Tryz.prog w = .ok (.string ⟨#[98, 111, 111, 108]⟩) w := fun _ => by kernel_rfl
set_option maxRecDepth 100000 in
theorem kwi_12 : ∀ w : World, (Instr.index 107 kwArr (.int .i64 12)).run Tryz.prog w = .ok (.string ⟨#[97, 114, 114, 97, 121]⟩) w := fun _ => by kernel_rfl
set_option maxRecDepth 100000 in
theorem kwi_13 : ∀ w : World, (Instr.index 107 kwArr (.int .i64 13)).run Tryz.prog w = .ok (.string ⟨#[116, 114, 117, 101]⟩) w := fun _ => by kernel_rfl
set_option maxRecDepth 100000 in
theorem kwi_14 : ∀ w : World, (Instr.index 107 kwArr (.int .i64 14)).run Tryz.prog w = .ok (.string ⟨#[102, 97, 108, 115, 101]⟩) w := fun _ => by kernel_rfl
theorem kw_at (k : Nat) (h : k < 15) : ∀ w : World, (Instr.index 107 kwArr (.int .i64 (k : Int))).run Tryz.prog w = .ok (.string (B (kwsL.getD k []))) w := by
  match k, h with
  | 0, _ => exact kwi_0
  | 1, _ => exact kwi_1
  | 2, _ => exact kwi_2
  | 3, _ => exact kwi_3
  | 4, _ => exact kwi_4
  | 5, _ => exact kwi_5
  | 6, _ => exact kwi_6
  | 7, _ => exact kwi_7
  | 8, _ => exact kwi_8
  | 9, _ => exact kwi_9
  | 10, _ => exact kwi_10
  | 11, _ => exact kwi_11
  | 12, _ => exact kwi_12
  | 13, _ => exact kwi_13
  | 14, _ => exact kwi_14
end Go.Proofs.YtipepljmfgjbpaaGreatDoor.L4

namespace Go.Proofs.YtipepljmfgjbpaaGreatDoor.L4
open Go Go.RowKit Go.Sort

theorem kwB_no {s : Bytes} (h : ∀ j, j < 15 → kwsL.getD j [] ≠ s) : kwB s = false := by
  unfold kwB
  rw [← Bool.not_eq_true, List.contains_iff_mem]
  intro hm
  obtain ⟨i, hi, he⟩ := List.getElem_of_mem hm
  have hi' : i < 15 := hi
  refine h i hi' ?_
  rw [List.getD_eq_getElem?_getD, List.getElem?_eq_getElem hi]
  exact he
theorem kwB_yes {s : Bytes} {k : Nat} (hk : k < 15) (h : (s == kwsL[k]?.getD []) = true) : kwB s = true := by
  unfold kwB
  rw [List.contains_iff_mem]
  have hi : k < kwsL.length := hk
  rw [List.getElem?_eq_getElem hi, Option.getD_some] at h
  rw [beq_iff_eq] at h
  rw [h]
  exact List.getElem_mem hi

theorem refKeywords_calls (w : World) :
    Calls Tryz.prog 36 #[] w fun e w' => e = .returned (.slice (some ⟨w.heap.size, 0, none⟩) 15 15) ∧ Below w.heap.size w w' ∧ (∀ k, k < 15 → w'.cell? ⟨w.heap.size, k, none⟩ = some (.string (B (kwsL.getD k [])))) := by
  go_enter Tryz.func36, Tryz.ntmps36
  go_wp2
  go_ret
  refine ⟨rfl, (Below.refl _ w).alloc (Nat.le_refl _) _, fun k hk => ?_⟩
  rw [cell_of_row _ _ k _ _ _ (heap_alloc_new w _)]
  match k, hk with
  | 0, _ | 1, _ | 2, _ | 3, _ | 4, _ | 5, _ | 6, _ | 7, _ | 8, _ | 9, _ | 10, _ | 11, _ | 12, _ | 13, _ | 14, _ => rfl
theorem kwB_yes' {s : Bytes} {k : Nat} (hk : k < 15) (h : (kwsL[k]?.getD [] == s) = true) : kwB s = true := kwB_yes hk (by rw [beq_iff_eq] at h ⊢; exact h.symm)
theorem refReserved_calls (s : Bytes) (w : World) :
    Calls Tryz.prog 21 #[.string (B s)] w fun e w' => e = .returned (.bool (kwB s)) ∧ Below w.heap.size w w' := by
  go_enter Tryz.func21, Tryz.ntmps21
  go_wp2_with fail
  refine (refKeywords_calls _).mono ?_
  rintro e w1 ⟨rfl, hb, hc⟩
  have HB := Lib.hid hb
  have HC := Lib.hid hc
  clear hb hc
  go_wp2_with fail
  go_loop [4] (fun i => ∃ k : Nat, k ≤ 15 ∧ i = .int .i64 k ∧ ∀ j, j < k → kwsL.getD j [] ≠ s) (fun i => 15 - (intOf i).toNat)
  case atStart => exact ⟨0, by omega, rfl, fun j hj => by omega⟩
  case round =>
    obtain ⟨k, hk, rfl, hno⟩ := hrel
    have H := Lib.hid hno
    clear hno
    by_cases hlt : k < 15
    · have hi := HC.out k hlt
      go_wp2_with fail
      · rename_i h _
        go_ret
        exact ⟨by rw [kwB_yes' hlt h]; rfl, HB.out⟩
      · rename_i h
        go_round
        case rel =>
          refine ⟨k + 1, by omega, by go_num, fun j hj => ?_⟩
          rcases Nat.lt_or_ge j k with h1 | h1
          · exact H.out j h1
          · obtain rfl : j = k := by omega
            intro e
            rw [List.getD_eq_getElem?_getD] at e
            rw [e] at h
            simp at h
        case measure => simp [intOf]; omega
    · obtain rfl : k = 15 := by omega
      go_wp2_with fail
      go_ret
      exact ⟨by rw [kwB_no H.out]; rfl, HB.out⟩
end Go.Proofs.YtipepljmfgjbpaaGreatDoor.L4
