/-
  The package's variables in memory; keyword: its contract.
-/
import Derived.Test.YtodicpnojcaanaaDoorSName
namespace Go.Proofs.YtodicpnojcaanaaDoor
open Go Go.RowKit

def kwArr : Value := Value.agg #[.string ⟨#[102, 117, 110, 99]⟩, .string ⟨#[118, 97, 114]⟩, .string ⟨#[105, 102]⟩, .string ⟨#[101, 108, 115, 101]⟩, .string ⟨#[119, 104, 105, 108, 101]⟩, .string ⟨#[114, 101, 116, 117, 114, 110]⟩, .string ⟨#[112, 114, 105, 110, 116]⟩, .string ⟨#[114, 101, 97, 100]⟩, .string ⟨#[110, 101, 119]⟩, .string ⟨#[108, 101, 110]⟩, .string ⟨#[105, 110, 116]⟩, .string ⟨#[98, 111, 111, 108]⟩, .string ⟨#[97, 114, 114, 97, 121]⟩, .string ⟨#[116, 114, 117, 101]⟩, .string ⟨#[102, 97, 108, 115, 101]⟩]
theorem kwArr_is : kwArr = Value.agg #[.string ⟨#[102, 117, 110, 99]⟩, .string ⟨#[118, 97, 114]⟩, .string ⟨#[105, 102]⟩, .string ⟨#[101, 108, 115, 101]⟩, .string ⟨#[119, 104, 105, 108, 101]⟩, .string ⟨#[114, 101, 116, 117, 114, 110]⟩, .string ⟨#[112, 114, 105, 110, 116]⟩, .string ⟨#[114, 101, 97, 100]⟩, .string ⟨#[110, 101, 119]⟩, .string ⟨#[108, 101, 110]⟩, .string ⟨#[105, 110, 116]⟩, .string ⟨#[98, 111, 111, 108]⟩, .string ⟨#[97, 114, 114, 97, 121]⟩, .string ⟨#[116, 114, 117, 101]⟩, .string ⟨#[102, 97, 108, 115, 101]⟩] := rfl
set_option maxRecDepth 100000
theorem kwi_0 : ∀ w : World, (Instr.index 101 kwArr (.int .i64 0)).run Tryd.prog w = .ok (.string ⟨#[102, 117, 110, 99]⟩) w := fun _ => by kernel_rfl
theorem kwi_1 : ∀ w : World, (Instr.index 101 kwArr (.int .i64 1)).run Tryd.prog w = .ok (.string ⟨#[118, 97, 114]⟩) w := fun _ => by kernel_rfl
theorem kwi_2 : ∀ w : World, (Instr.index 101 kwArr (.int .i64 2)).run Tryd.prog w = .ok (.string ⟨#[105, 102]⟩) w := fun _ => by kernel_rfl
theorem kwi_3 : ∀ w : World, (Instr.index 101 kwArr (.int .i64 3)).run Tryd.prog w = .ok (.string ⟨#[101, 108, 115, 101]⟩) w := fun _ => by kernel_rfl
theorem kwi_4 : ∀ w : World, (Instr.index 101 kwArr (.int .i64 4)).run Tryd.prog w = .ok (.string ⟨#[119, 104, 105, 108, 101]⟩) w := fun _ => by kernel_rfl
theorem kwi_5 : ∀ w : World, (Instr.index 101 kwArr (.int .i64 5)).run Tryd.prog w = .ok (.string ⟨#[114, 101, 116, 117, 114, 110]⟩) w := fun _ => by kernel_rfl
theorem kwi_6 : ∀ w : World, (Instr.index 101 kwArr (.int .i64 6)).run Tryd.prog w = .ok (.string ⟨#[112, 114, 105, 110, 116]⟩) w := fun _ => by kernel_rfl
theorem kwi_7 : ∀ w : World, (Instr.index 101 kwArr (.int .i64 7)).run Tryd.prog w = .ok (.string ⟨#[114, 101, 97, 100]⟩) w := fun _ => by kernel_rfl
theorem kwi_8 : ∀ w : World, (Instr.index 101 kwArr (.int .i64 8)).run Tryd.prog w = .ok (.string ⟨#[110, 101, 119]⟩) w := fun _ => by kernel_rfl
theorem kwi_9 : ∀ w : World, (Instr.index 101 kwArr (.int .i64 9)).run Tryd.prog w = .ok (.string ⟨#[108, 101, 110]⟩) w := fun _ => by kernel_rfl
theorem kwi_10 : ∀ w : World, (Instr.index 101 kwArr (.int .i64 10)).run Tryd.prog w = .ok (.string ⟨#[105, 110, 116]⟩) w := fun _ => by kernel_rfl
theorem kwi_11 : ∀ w : World, (Instr.index 101 kwArr (.int .i64 11)).run Tryd.prog w = .ok (.string ⟨#[98, 111, 111, 108]⟩) w := fun _ => by kernel_rfl
theorem kwi_12 : ∀ w : World, (Instr.index 101 kwArr (.int .i64 12)).run Tryd.prog w = .ok (.string ⟨#[97, 114, 114, 97, 121]⟩) w := fun _ => by kernel_rfl
theorem kwi_13 : ∀ w : World, (Instr.index 101 kwArr (.int .i64 13)).run Tryd.prog w = .ok (.string ⟨#[116, 114, 117, 101]⟩) w := fun _ => by kernel_rfl
theorem kwi_14 : ∀ w : World, (Instr.index 101 kwArr (.int .i64 14)).run Tryd.prog w = .ok (.string ⟨#[102, 97, 108, 115, 101]⟩) w := fun _ => by kernel_rfl

theorem kw_at (k : Nat) (h : k < 15) : ∀ w : World, (Instr.index 101 kwArr (.int .i64 (k : Int))).run Tryd.prog w = .ok (.string (B (kws.getD k []))) w := by
  match k, h with
  | 0, _ => exact kwi_0
  | 1, _ => exact kwi_1
  | 2, _ => exact kwi_2
  | 3, _ => exact kwi_3
  | 4, _ => exact kwi_4
  | 5, _ => exact kwi_5
  | 6, _ => exact kwi_6
  | 7, _ => exact kwi_7
  | 8, _ => exact kwi_8
  | 9, _ => exact kwi_9
  | 10, _ => exact kwi_10
  | 11, _ => exact kwi_11
  | 12, _ => exact kwi_12
  | 13, _ => exact kwi_13
  | 14, _ => exact kwi_14

/-- WHAT THE PACKAGE's VARIABLE keywords HOLDS. -/
structure GlobK (w : World) : Prop where
  c0 : w.cell? ⟨0, 0, none⟩ = some (.string ⟨#[102, 117, 110, 99]⟩)
  c1 : w.cell? ⟨0, 1, none⟩ = some (.string ⟨#[118, 97, 114]⟩)
  c2 : w.cell? ⟨0, 2, none⟩ = some (.string ⟨#[105, 102]⟩)
  c3 : w.cell? ⟨0, 3, none⟩ = some (.string ⟨#[101, 108, 115, 101]⟩)
  c4 : w.cell? ⟨0, 4, none⟩ = some (.string ⟨#[119, 104, 105, 108, 101]⟩)
  c5 : w.cell? ⟨0, 5, none⟩ = some (.string ⟨#[114, 101, 116, 117, 114, 110]⟩)
  c6 : w.cell? ⟨0, 6, none⟩ = some (.string ⟨#[112, 114, 105, 110, 116]⟩)
  c7 : w.cell? ⟨0, 7, none⟩ = some (.string ⟨#[114, 101, 97, 100]⟩)
  c8 : w.cell? ⟨0, 8, none⟩ = some (.string ⟨#[110, 101, 119]⟩)
  c9 : w.cell? ⟨0, 9, none⟩ = some (.string ⟨#[108, 101, 110]⟩)
  c10 : w.cell? ⟨0, 10, none⟩ = some (.string ⟨#[105, 110, 116]⟩)
  c11 : w.cell? ⟨0, 11, none⟩ = some (.string ⟨#[98, 111, 111, 108]⟩)
  c12 : w.cell? ⟨0, 12, none⟩ = some (.string ⟨#[97, 114, 114, 97, 121]⟩)
  c13 : w.cell? ⟨0, 13, none⟩ = some (.string ⟨#[116, 114, 117, 101]⟩)
  c14 : w.cell? ⟨0, 14, none⟩ = some (.string ⟨#[102, 97, 108, 115, 101]⟩)
theorem kwB_no {s : Bytes} (h : ∀ j, j < 15 → kws.getD j [] ≠ s) : kwB s = false := by
  unfold kwB
  rw [← Bool.not_eq_true, List.contains_iff_mem]
  intro hm
  obtain ⟨i, hi, he⟩ := List.getElem_of_mem hm
  have hi' : i < 15 := hi
  refine h i hi' ?_
  rw [List.getD_eq_getElem?_getD, List.getElem?_eq_getElem hi]
  exact he
theorem kwB_yes {s : Bytes} {k : Nat} (hk : k < 15) (h : (s == kws[k]?.getD []) = true) : kwB s = true := by
  unfold kwB
  rw [List.contains_iff_mem]
  have hi : k < kws.length := hk
  rw [List.getElem?_eq_getElem hi, Option.getD_some] at h
  rw [beq_iff_eq] at h
  rw [h]
  exact List.getElem_mem hi

theorem keyword_calls (s : Bytes) (w : World) (hG : GlobK w) :
    Calls Tryd.prog 42 #[.string (B s)] w fun e w' => e = .returned (.bool (kwB s)) ∧ w = w' := by
  obtain ⟨c0, c1, c2, c3, c4, c5, c6, c7, c8, c9, c10, c11, c12, c13, c14⟩ := hG
  go_enter Tryd.func42, Tryd.ntmps42
  go_wp2_with fail
  rw [← kwArr_is]
  clear c0 c1 c2 c3 c4 c5 c6 c7 c8 c9 c10 c11 c12 c13 c14
  go_loop [6] (fun i => ∃ k : Nat, k ≤ 15 ∧ i = .int .i64 k ∧ ∀ j, j < k → kws.getD j [] ≠ s) (fun i => 15 - (intOf i).toNat)
  case atStart => exact ⟨0, by omega, rfl, fun j hj => by omega⟩
  case round =>
    obtain ⟨k, hk, rfl, hno⟩ := hrel
    have H := Lib.hid hno
    clear hno
    by_cases hlt : k < 15
    · have hi := kw_at k hlt
      go_wp2_with fail
      · rename_i h _
        go_ret
        exact ⟨by rw [kwB_yes hlt h]; rfl, rfl⟩
      · rename_i h
        go_round
        case rel =>
          refine ⟨k + 1, by omega, by go_num, fun j hj => ?_⟩
          rcases Nat.lt_or_ge j k with h1 | h1
          · exact H.out j h1
          · obtain rfl : j = k := by omega
            intro e
            rw [List.getD_eq_getElem?_getD] at e
            rw [e] at h
            simp at h
        case measure => simp [intOf]; omega
    · obtain rfl : k = 15 := by omega
      go_wp2_with fail
      go_ret
      exact ⟨by rw [kwB_no H.out]; rfl, rfl⟩
end Go.Proofs.YtodicpnojcaanaaDoor
