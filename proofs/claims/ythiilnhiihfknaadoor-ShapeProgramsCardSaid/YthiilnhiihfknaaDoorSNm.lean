/-
  letter, digit: contracts, of both.
  The package's variables in memory; keyword: its contract.
  Name: its contract.
  The reference's Keywords, Name: contracts.
-/
import Derived.Test.YthiilnhiihfknaaDoorSBx
namespace Go.Proofs.YthiilnhiihfknaaDoor
open Go Go.RowKit

theorem letter_calls (c : Int) (w : World) : Calls Tryd.prog 41 #[.int .u8 c] w fun e w' => e = .returned (.bool (lettI c)) ∧ w = w' := by
  by_cases h1 : 65 ≤ c <;> by_cases h2 : c ≤ 90 <;> by_cases h3 : 97 ≤ c <;> by_cases h4 : c ≤ 122 <;> first | (exfalso; omega) |
    (go_enter Tryd.func41, Tryd.ntmps41
     go_wp2
     go_ret
     exact ⟨by simp [lettI, h1, h2, h3, h4], rfl⟩)
theorem digit_calls (c : Int) (w : World) : Calls Tryd.prog 43 #[.int .u8 c] w fun e w' => e = .returned (.bool (digI c)) ∧ w = w' := by
  by_cases h1 : 48 ≤ c <;> by_cases h2 : c ≤ 57 <;> first | (exfalso; omega) |
    (go_enter Tryd.func43, Tryd.ntmps43
     go_wp2
     go_ret
     exact ⟨by simp [digI, h1, h2], rfl⟩)
theorem refLetter_calls (c : Int) (w : World) : Calls Tryd.prog 44 #[.int .u8 c] w fun e w' => e = .returned (.bool (lettI c)) ∧ w = w' := by
  by_cases h1 : 65 ≤ c <;> by_cases h2 : c ≤ 90 <;> by_cases h3 : 97 ≤ c <;> by_cases h4 : c ≤ 122 <;> first | (exfalso; omega) |
    (go_enter Tryd.func44, Tryd.ntmps44
     go_wp2
     go_ret
     exact ⟨by simp [lettI, h1, h2, h3, h4], rfl⟩)
theorem refDigit_calls (c : Int) (w : World) : Calls Tryd.prog 45 #[.int .u8 c] w fun e w' => e = .returned (.bool (digI c)) ∧ w = w' := by
  by_cases h1 : 48 ≤ c <;> by_cases h2 : c ≤ 57 <;> first | (exfalso; omega) |
    (go_enter Tryd.func45, Tryd.ntmps45
     go_wp2
     go_ret
     exact ⟨by simp [digI, h1, h2], rfl⟩)
theorem varType_calls (t : Int) (w : World) : Calls Tryd.prog 85 #[.int .i64 t] w fun e w' => e = .returned (.bool (typB t)) ∧ w = w' := by
  by_cases h1 : 1 ≤ t <;> by_cases h2 : t ≤ 3 <;> first | (exfalso; omega) |
    (go_enter Tryd.func85, Tryd.ntmps85
     go_wp2
     go_ret
     exact ⟨by simp [typB, h1, h2], rfl⟩)
theorem typ_calls (t : Int) (w : World) : Calls Tryd.prog 79 #[.int .i64 t] w fun e w' => e = .returned (.bool (typB t)) ∧ w = w' := by
  rcases (show t = 1 ∨ t = 2 ∨ t = 3 ∨ ¬ (1 ≤ t ∧ t ≤ 3) from by omega) with rfl | rfl | rfl | h
  · go_enter Tryd.func79, Tryd.ntmps79
    go_wp2
    go_ret
    exact ⟨by simp [typB], rfl⟩
  · go_enter Tryd.func79, Tryd.ntmps79
    go_wp2
    go_ret
    exact ⟨by simp [typB], rfl⟩
  · go_enter Tryd.func79, Tryd.ntmps79
    go_wp2
    go_ret
    exact ⟨by simp [typB], rfl⟩
  · have e1 : (t == 1) = false := by simp; omega
    have e2 : (t == 2) = false := by simp; omega
    have e3 : (t == 3) = false := by simp; omega
    have e4 : typB t = false := by simp [typB]; omega
    have H4 := Lib.hid e4
    clear e4 h
    go_enter Tryd.func79, Tryd.ntmps79
    go_wp2
    go_ret
    rw [H4.out]
    exact ⟨rfl, rfl⟩
end Go.Proofs.YthiilnhiihfknaaDoor

namespace Go.Proofs.YthiilnhiihfknaaDoor
open Go Go.RowKit

def kwArr : Value := Value.agg #[.string ⟨#[102, 117, 110, 99]⟩, .string ⟨#[118, 97, 114]⟩, .string ⟨#[105, 102]⟩, .string ⟨#[101, 108, 115, 101]⟩, .string ⟨#[119, 104, 105, 108, 101]⟩, .string ⟨#[114, 101, 116, 117, 114, 110]⟩, .string ⟨#[112, 114, 105, 110, 116]⟩, .string ⟨#[114, 101, 97, 100]⟩, .string ⟨#[110, 101, 119]⟩, .string ⟨#[108, 101, 110]⟩, .string ⟨#[105, 110, 116]⟩, .string ⟨#[98, 111, 111, 108]⟩, .string ⟨#[97, 114, 114, 97, 121]⟩, .string ⟨#[116, 114, 117, 101]⟩, .string ⟨#[102, 97, 108, 115, 101]⟩]
theorem kwArr_is : kwArr = Value.agg #[.string ⟨#[102, 117, 110, 99]⟩, .string ⟨#[118, 97, 114]⟩, .string ⟨#[105, 102]⟩, .string ⟨#[101, 108, 115, 101]⟩, .string ⟨#[119, 104, 105, 108, 101]⟩, .string ⟨#[114, 101, 116, 117, 114, 110]⟩, .string ⟨#[112, 114, 105, 110, 116]⟩, .string ⟨#[114, 101, 97, 100]⟩, .string ⟨#[110, 101, 119]⟩, .string ⟨#[108, 101, 110]⟩, .string ⟨#[105, 110, 116]⟩, .string ⟨#[98, 111, 111, 108]⟩, .string ⟨#[97, 114, 114, 97, 121]⟩, .string ⟨#[116, 114, 117, 101]⟩, .string ⟨#[102, 97, 108, 115, 101]⟩] := rfl
set_option maxRecDepth 100000
theorem kwi_0 : ∀ w : World, (Instr.index 101 kwArr (.int .i64 0)).run Tryd.prog w = .ok (.string ⟨#[102, 117, 110, 99]⟩) w := fun _ => by kernel_rfl
theorem kwi_1 : ∀ w : World, (Instr.index 101 kwArr (.int .i64 1)).run Tryd.prog w = .ok (.string ⟨#[118, 97, 114]⟩) w := fun _ => by kernel_rfl
theorem kwi_2 : ∀ w : World, (Instr.index 101 kwArr (.int .i64 2)).run Tryd.prog w = .ok (.string ⟨#[105, 102]⟩) w := fun _ => by kernel_rfl
theorem kwi_3 : ∀ w : World, (Instr.index 101 kwArr (.int .i64 3)).run Tryd.prog w = .ok (.string ⟨#[101, 108, 115, 101]⟩) w := fun _ => by kernel_rfl
theorem kwi_4 : ∀ w : World, (Instr.index 101 kwArr (.int .i64 4)).run Tryd.prog w = .ok (.string ⟨#[119, 104, 105, 108, 101]⟩) w := fun _ => by kernel_rfl
theorem kwi_5 : ∀ w : World, (Instr.index 101 kwArr (.int .i64 5)).run Tryd.prog w = .ok (.string ⟨#[114, 101, 116, 117, 114, 110]⟩) w := fun _ => by kernel_rfl
theorem kwi_6 : ∀ w : World, (Instr.index 101 kwArr (.int .i64 6)).run Tryd.prog w = .ok (.string ⟨#[112, 114, 105, 110, 116]⟩) w := fun _ => by kernel_rfl
theorem kwi_7 : ∀ w : World, (Instr.index 101 kwArr (.int .i64 7)).run Tryd.prog w = .ok (.string ⟨#[114, 101, 97, 100]⟩) w := fun _ => by kernel_rfl
theorem kwi_8 : ∀ w : World, (Instr.index 101 kwArr (.int .i64 8)).run Tryd.prog w = .ok (.string ⟨#[110, 101, 119]⟩) w := fun _ => by kernel_rfl
theorem kwi_9 : ∀ w : World, (Instr.index 101 kwArr (.int .i64 9)).run Tryd.prog w = .ok (.string ⟨#[108, 101, 110]⟩) w := fun _ => by kernel_rfl
theorem kwi_10 : ∀ w : World, (Instr.index 101 kwArr (.int .i64 10)).run Tryd.prog w = .ok (.string ⟨#[105, 110, 116]⟩) w := fun _ => by kernel_rfl
theorem kwi_11 : ∀ w : World, (Instr.index 101 kwArr (.int .i64 11)).run Tryd.prog w = .ok (.string ⟨#[98, 111, 111, 108]⟩) w := fun _ => by kernel_rfl
theorem kwi_12 : ∀ w : World, (Instr.index 101 kwArr (.int .i64 12)).run Tryd.prog w = .ok (.string ⟨#[97, 114, 114, 97, 121]⟩) w := fun _ => by kernel_rfl
theorem kwi_13 : ∀ w : World, (Instr.index 101 kwArr (.int .i64 13)).run Tryd.prog w = .ok (.string ⟨#[116, 114, 117, 101]⟩) w := fun _ => by kernel_rfl
theorem kwi_14 : ∀ w : World, (Instr.index 101 kwArr (.int .i64 14)).run Tryd.prog w = .ok (.string ⟨#[102, 97, 108, 115, 101]⟩) w := fun _ => by kernel_rfl

theorem kw_at (k : Nat) (h : k < 15) : ∀ w : World, (Instr.index 101 kwArr (.int .i64 (k : Int))).run Tryd.prog w = .ok (.string (B (kws.getD k []))) w := by
  match k, h with
  | 0, _ => exact kwi_0
  | 1, _ => exact kwi_1
  | 2, _ => exact kwi_2
  | 3, _ => exact kwi_3
  | 4, _ => exact kwi_4
  | 5, _ => exact kwi_5
  | 6, _ => exact kwi_6
  | 7, _ => exact kwi_7
  | 8, _ => exact kwi_8
  | 9, _ => exact kwi_9
  | 10, _ => exact kwi_10
  | 11, _ => exact kwi_11
  | 12, _ => exact kwi_12
  | 13, _ => exact kwi_13
  | 14, _ => exact kwi_14

/-- WHAT THE PACKAGE's VARIABLE keywords HOLDS. -/
structure GlobK (w : World) : Prop where
  c0 : w.cell? ⟨0, 0, none⟩ = some (.string ⟨#[102, 117, 110, 99]⟩)
  c1 : w.cell? ⟨0, 1, none⟩ = some (.string ⟨#[118, 97, 114]⟩)
  c2 : w.cell? ⟨0, 2, none⟩ = some (.string ⟨#[105, 102]⟩)
  c3 : w.cell? ⟨0, 3, none⟩ = some (.string ⟨#[101, 108, 115, 101]⟩)
  c4 : w.cell? ⟨0, 4, none⟩ = some (.string ⟨#[119, 104, 105, 108, 101]⟩)
  c5 : w.cell? ⟨0, 5, none⟩ = some (.string ⟨#[114, 101, 116, 117, 114, 110]⟩)
  c6 : w.cell? ⟨0, 6, none⟩ = some (.string ⟨#[112, 114, 105, 110, 116]⟩)
  c7 : w.cell? ⟨0, 7, none⟩ = some (.string ⟨#[114, 101, 97, 100]⟩)
  c8 : w.cell? ⟨0, 8, none⟩ = some (.string ⟨#[110, 101, 119]⟩)
  c9 : w.cell? ⟨0, 9, none⟩ = some (.string ⟨#[108, 101, 110]⟩)
  c10 : w.cell? ⟨0, 10, none⟩ = some (.string ⟨#[105, 110, 116]⟩)
  c11 : w.cell? ⟨0, 11, none⟩ = some (.string ⟨#[98, 111, 111, 108]⟩)
  c12 : w.cell? ⟨0, 12, none⟩ = some (.string ⟨#[97, 114, 114, 97, 121]⟩)
  c13 : w.cell? ⟨0, 13, none⟩ = some (.string ⟨#[116, 114, 117, 101]⟩)
  c14 : w.cell? ⟨0, 14, none⟩ = some (.string ⟨#[102, 97, 108, 115, 101]⟩)
theorem kwB_no {s : Bytes} (h : ∀ j, j < 15 → kws.getD j [] ≠ s) : kwB s = false := by
  unfold kwB
  rw [← Bool.not_eq_true, List.contains_iff_mem]
  intro hm
  obtain ⟨i, hi, he⟩ := List.getElem_of_mem hm
  have hi' : i < 15 := hi
  refine h i hi' ?_
  rw [List.getD_eq_getElem?_getD, List.getElem?_eq_getElem hi]
  exact he
theorem kwB_yes {s : Bytes} {k : Nat} (hk : k < 15) (h : (s == kws[k]?.getD []) = true) : kwB s = true := by
  unfold kwB
  rw [List.contains_iff_mem]
  have hi : k < kws.length := hk
  rw [List.getElem?_eq_getElem hi, Option.getD_some] at h
  rw [beq_iff_eq] at h
  rw [h]
  exact List.getElem_mem hi

theorem keyword_calls (s : Bytes) (w : World) (hG : GlobK w) :
    Calls Tryd.prog 42 #[.string (B s)] w fun e w' => e = .returned (.bool (kwB s)) ∧ w = w' := by
  obtain ⟨c0, c1, c2, c3, c4, c5, c6, c7, c8, c9, c10, c11, c12, c13, c14⟩ := hG
  go_enter Tryd.func42, Tryd.ntmps42
  go_wp2_with fail
  rw [← kwArr_is]
  clear c0 c1 c2 c3 c4 c5 c6 c7 c8 c9 c10 c11 c12 c13 c14
  go_loop [6] (fun i => ∃ k : Nat, k ≤ 15 ∧ i = .int .i64 k ∧ ∀ j, j < k → kws.getD j [] ≠ s) (fun i => 15 - (intOf i).toNat)
  case atStart => exact ⟨0, by omega, rfl, fun j hj => by omega⟩
  case round =>
    obtain ⟨k, hk, rfl, hno⟩ := hrel
    have H := Lib.hid hno
    clear hno
    by_cases hlt : k < 15
    · have hi := kw_at k hlt
      go_wp2_with fail
      · rename_i h _
        go_ret
        exact ⟨by rw [kwB_yes hlt h]; rfl, rfl⟩
      · rename_i h
        go_round
        case rel =>
          refine ⟨k + 1, by omega, by go_num, fun j hj => ?_⟩
          rcases Nat.lt_or_ge j k with h1 | h1
          · exact H.out j h1
          · obtain rfl : j = k := by omega
            intro e
            rw [List.getD_eq_getElem?_getD] at e
            rw [e] at h
            simp at h
        case measure => simp [intOf]; omega
    · obtain rfl : k = 15 := by omega
      go_wp2_with fail
      go_ret
      exact ⟨by rw [kwB_no H.out]; rfl, rfl⟩
end Go.Proofs.YthiilnhiihfknaaDoor

namespace Go.Proofs.YthiilnhiihfknaaDoor
open Go Go.RowKit

theorem take_all (l : Bytes) (k : Nat) (h : k < l.length) : (l.take (k + 1)).all okC = ((l.take k).all okC && okC (l[k])) := by
  rw [List.take_succ_eq_append_getElem h]; simp only [List.all_append, List.all_cons, List.all_nil, Bool.and_true]
theorem all_take {l : Bytes} {k : Nat} (h : l.all okC = true) : (l.take k).all okC = true := by
  rw [List.all_eq_true] at h ⊢
  exact fun x hx => h x (List.mem_of_mem_take hx)

set_option maxHeartbeats 1000000 in
theorem name_calls (s : Bytes) (hs : s.length ≤ 9223372036854775807) (w : World) (hG : GlobK w) :
    Calls Tryd.prog 13 #[.string (B s)] w fun e w' => e = .returned (.bool (nameB s)) ∧ w = w' := by
  cases s with
  | nil =>
    go_enter Tryd.func13, Tryd.ntmps13
    go_wp2_with fail
    go_ret
    exact ⟨rfl, rfl⟩
  | cons c r =>
    have e0 : nameB (c :: r) = (decide ((c :: r).length ≤ 16) && lettI (c.toNat : Int) && (c :: r).all okC && !kwB (c :: r)) := by simp [nameB]
    have E0 := Lib.hid e0
    clear e0
    by_cases h16 : r.length + 1 ≤ 16
    · have h16' : ¬ 16 < r.length + 1 := by omega
      have C1 := letter_calls (c.toNat : Int)
      have C2 := keyword_calls (c :: r) w hG
      by_cases hl : lettI (c.toNat : Int) = true
      · rw [hl] at C1
        have C1 := Lib.hid C1
        by_cases hk : kwB (c :: r) = true
        · rw [hk] at C2
          have C2 := Lib.hid C2
          go_enter Tryd.func13, Tryd.ntmps13
          go_wp2_with fail
          refine (C1.out _).mono ?_
          rintro e w1 ⟨rfl, rfl⟩
          go_wp2_with fail
          refine C2.out.mono ?_
          rintro e w1 ⟨rfl, rfl⟩
          go_wp2_with fail
          go_ret
          exact ⟨by rw [E0.out, hl, hk]; simp, rfl⟩
        · simp only [Bool.not_eq_true] at hk
          rw [hk] at C2
          have C2 := Lib.hid C2
          go_enter Tryd.func13, Tryd.ntmps13
          go_wp2_with fail
          refine (C1.out _).mono ?_
          rintro e w1 ⟨rfl, rfl⟩
          go_wp2_with fail
          refine C2.out.mono ?_
          rintro e w1 ⟨rfl, rfl⟩
          go_wp2_with fail
          go_loop [23] (fun i => ∃ k : Nat, k ≤ r.length + 1 ∧ i = .int .i64 k ∧ ((c :: r).take k).all okC = true) (fun i => r.length + 1 - (intOf i).toNat)
          case atStart => exact ⟨0, by omega, rfl, rfl⟩
          case round =>
            obtain ⟨k, hk', rfl, hall⟩ := hrel
            have H := Lib.hid hall
            clear hall
            by_cases hlt : k < r.length + 1
            · have hb : k < (B (c :: r)).size := by show k < (c :: r).toArray.size; simpa using hlt
              have hsn : ((c :: r).take (k + 1)).all okC = (((c :: r).take k).all okC && okC ((B (c :: r))[k]'hb)) := by rw [take_all (c :: r) k (by simpa using hlt)]; rfl
              have HS := Lib.hid hsn
              clear hsn
              by_cases e1 : lettI (((B (c :: r))[k]'hb).toNat : Int) = true
              · go_wp2_with fail
                refine (letter_calls _ _).mono ?_
                rintro e w1 ⟨rfl, rfl⟩
                go_wp2_with fail
                go_round
                case rel => exact ⟨k + 1, by omega, by go_num, by rw [HS.out, H.out]; simp [okC, e1]⟩
                case measure => simp [intOf]; omega
              · simp only [Bool.not_eq_true] at e1
                by_cases e2 : digI (((B (c :: r))[k]'hb).toNat : Int) = true
                · go_wp2_with fail
                  refine (letter_calls _ _).mono ?_
                  rintro e w1 ⟨rfl, rfl⟩
                  go_wp2_with fail
                  refine (digit_calls _ _).mono ?_
                  rintro e w1 ⟨rfl, rfl⟩
                  go_wp2_with fail
                  go_round
                  case rel => exact ⟨k + 1, by omega, by go_num, by rw [HS.out, H.out]; simp [okC, e2]⟩
                  case measure => simp [intOf]; omega
                · simp only [Bool.not_eq_true] at e2
                  by_cases e3 : (B (c :: r))[k]'hb = 95
                  · have e4 : ((((B (c :: r))[k]'hb).toNat : Int) != 95) = false := by rw [e3]; rfl
                    have E3 := Lib.hid e3
                    clear e3
                    go_wp2_with fail
                    refine (letter_calls _ _).mono ?_
                    rintro e w1 ⟨rfl, rfl⟩
                    go_wp2_with fail
                    refine (digit_calls _ _).mono ?_
                    rintro e w1 ⟨rfl, rfl⟩
                    go_wp2_with fail
                    go_round
                    case rel => exact ⟨k + 1, by omega, by go_num, by rw [HS.out, H.out, E3.out]; rfl⟩
                    case measure => simp [intOf]; omega
                  · have e4 : ((((B (c :: r))[k]'hb).toNat : Int) != 95) = true := by
                      rw [bne_iff_ne]; intro h; exact e3 (UInt8.toNat_inj.1 (by simpa using (show ((B (c :: r))[k]'hb).toNat = 95 by omega)))
                    have e5 : (c :: r).all okC = false := by
                      have h1 : ((c :: r).take (k + 1)).all okC = false := by rw [HS.out]; simp [okC, e1, e2]; intro _ h; exact e3 (UInt8.toNat_inj.1 h)
                      rw [← Bool.not_eq_true] at h1 ⊢
                      exact fun h => h1 (all_take h)
                    have E5 := Lib.hid e5
                    clear e5 e3
                    go_wp2_with fail
                    refine (letter_calls _ _).mono ?_
                    rintro e w1 ⟨rfl, rfl⟩
                    go_wp2_with fail
                    refine (digit_calls _ _).mono ?_
                    rintro e w1 ⟨rfl, rfl⟩
                    go_wp2_with fail
                    go_ret
                    exact ⟨by rw [E0.out, E5.out]; simp, rfl⟩
            · obtain rfl : k = r.length + 1 := by omega
              go_wp2_with fail
              go_ret
              have h2 : (c :: r).all okC = true := by have := H.out; rwa [List.take_of_length_le (by simp)] at this
              exact ⟨by rw [E0.out, h2, hl, hk, show decide ((c :: r).length ≤ 16) = true by simp; omega]; rfl, rfl⟩
      · simp only [Bool.not_eq_true] at hl
        rw [hl] at C1
        have C1 := Lib.hid C1
        clear C2
        go_enter Tryd.func13, Tryd.ntmps13
        go_wp2_with fail
        refine (C1.out _).mono ?_
        rintro e w1 ⟨rfl, rfl⟩
        go_wp2_with fail
        go_ret
        exact ⟨by rw [E0.out, hl]; simp, rfl⟩
    · have h16' : 16 < r.length + 1 := by omega
      go_enter Tryd.func13, Tryd.ntmps13
      go_wp2_with fail
      go_ret
      exact ⟨by rw [E0.out, show decide ((c :: r).length ≤ 16) = false by simp; omega]; rfl, rfl⟩
end Go.Proofs.YthiilnhiihfknaaDoor

namespace Go.Proofs.YthiilnhiihfknaaDoor
open Go Go.RowKit

theorem keywords_calls (w : World) :
    Calls Tryd.prog 46 #[] w fun e w' => e = .returned (.slice (some ⟨w.heap.size, 0, none⟩) 15 15) ∧ Below w.heap.size w w' ∧ (∀ k, k < 15 → w'.cell? ⟨w.heap.size, k, none⟩ = some (.string (B (kws.getD k [])))) := by
  go_enter Tryd.func46, Tryd.ntmps46
  go_wp2
  go_ret
  refine ⟨rfl, (Below.refl _ w).alloc (Nat.le_refl _) _, fun k hk => ?_⟩
  rw [cell_of_row _ _ k _ _ _ (heap_alloc_new w _)]
  match k, hk with
  | 0, _ | 1, _ | 2, _ | 3, _ | 4, _ | 5, _ | 6, _ | 7, _ | 8, _ | 9, _ | 10, _ | 11, _ | 12, _ | 13, _ | 14, _ => rfl

theorem kwB_yes' {s : Bytes} {k : Nat} (hk : k < 15) (h : (kws[k]?.getD [] == s) = true) : kwB s = true := kwB_yes hk (by rw [beq_iff_eq] at h ⊢; exact h.symm)
set_option maxHeartbeats 1000000 in
theorem refName_calls (s : Bytes) (hs : s.length ≤ 9223372036854775807) (w : World) :
    Calls Tryd.prog 14 #[.string (B s)] w fun e w' => e = .returned (.bool (nameB s)) ∧ Below w.heap.size w w' := by
  cases s with
  | nil =>
    go_enter Tryd.func14, Tryd.ntmps14
    go_wp2_with fail
    go_ret
    exact ⟨rfl, Below.refl _ _⟩
  | cons c r =>
    have e0 : nameB (c :: r) = (decide ((c :: r).length ≤ 16) && lettI (c.toNat : Int) && (c :: r).all okC && !kwB (c :: r)) := by simp [nameB]
    have E0 := Lib.hid e0
    clear e0
    by_cases h16 : r.length + 1 ≤ 16
    · have h16' : ¬ 16 < r.length + 1 := by omega
      have C1 := refLetter_calls (c.toNat : Int)
      by_cases hl : lettI (c.toNat : Int) = true
      · rw [hl] at C1
        have C1 := Lib.hid C1
        go_enter Tryd.func14, Tryd.ntmps14
        go_wp2_with fail
        refine (C1.out _).mono ?_
        rintro e w1 ⟨rfl, rfl⟩
        go_wp2_with fail
        go_loop [3] (fun i => ∃ k : Nat, k ≤ r.length + 1 ∧ i = .int .i64 k ∧ ((c :: r).take k).all okC = true) (fun i => r.length + 1 - (intOf i).toNat)
        case atStart => exact ⟨0, by omega, rfl, rfl⟩
        case round =>
          obtain ⟨k, hk', rfl, hall⟩ := hrel
          have H := Lib.hid hall
          clear hall
          by_cases hlt : k < r.length + 1
          · have hb : k < (B (c :: r)).size := by show k < (c :: r).toArray.size; simpa using hlt
            have hsn : ((c :: r).take (k + 1)).all okC = (((c :: r).take k).all okC && okC ((B (c :: r))[k]'hb)) := by rw [take_all (c :: r) k (by simpa using hlt)]; rfl
            have HS := Lib.hid hsn
            clear hsn
            by_cases e1 : lettI (((B (c :: r))[k]'hb).toNat : Int) = true
            · go_wp2_with fail
              refine (refLetter_calls _ _).mono ?_
              rintro e w1 ⟨rfl, rfl⟩
              go_wp2_with fail
              go_round
              case rel => exact ⟨k + 1, by omega, by go_num, by rw [HS.out, H.out]; simp [okC, e1]⟩
              case measure => simp [intOf]; omega
            · simp only [Bool.not_eq_true] at e1
              by_cases e2 : digI (((B (c :: r))[k]'hb).toNat : Int) = true
              · go_wp2_with fail
                refine (refLetter_calls _ _).mono ?_
                rintro e w1 ⟨rfl, rfl⟩
                go_wp2_with fail
                refine (refDigit_calls _ _).mono ?_
                rintro e w1 ⟨rfl, rfl⟩
                go_wp2_with fail
                go_round
                case rel => exact ⟨k + 1, by omega, by go_num, by rw [HS.out, H.out]; simp [okC, e2]⟩
                case measure => simp [intOf]; omega
              · simp only [Bool.not_eq_true] at e2
                by_cases e3 : (B (c :: r))[k]'hb = 95
                · have e4 : ((((B (c :: r))[k]'hb).toNat : Int) != 95) = false := by rw [e3]; rfl
                  have E3 := Lib.hid e3
                  clear e3
                  go_wp2_with fail
                  refine (refLetter_calls _ _).mono ?_
                  rintro e w1 ⟨rfl, rfl⟩
                  go_wp2_with fail
                  refine (refDigit_calls _ _).mono ?_
                  rintro e w1 ⟨rfl, rfl⟩
                  go_wp2_with fail
                  go_round
                  case rel => exact ⟨k + 1, by omega, by go_num, by rw [HS.out, H.out, E3.out]; rfl⟩
                  case measure => simp [intOf]; omega
                · have e4 : ((((B (c :: r))[k]'hb).toNat : Int) != 95) = true := by
                    rw [bne_iff_ne]; intro h; exact e3 (UInt8.toNat_inj.1 (by simpa using (show ((B (c :: r))[k]'hb).toNat = 95 by omega)))
                  have e5 : (c :: r).all okC = false := by
                    have h1 : ((c :: r).take (k + 1)).all okC = false := by rw [HS.out]; simp [okC, e1, e2]; intro _ h; exact e3 (UInt8.toNat_inj.1 h)
                    rw [← Bool.not_eq_true] at h1 ⊢
                    exact fun h => h1 (all_take h)
                  have E5 := Lib.hid e5
                  clear e5 e3
                  go_wp2_with fail
                  refine (refLetter_calls _ _).mono ?_
                  rintro e w1 ⟨rfl, rfl⟩
                  go_wp2_with fail
                  refine (refDigit_calls _ _).mono ?_
                  rintro e w1 ⟨rfl, rfl⟩
                  go_wp2_with fail
                  go_ret
                  exact ⟨by rw [E0.out, E5.out]; simp, Below.refl _ _⟩
          · obtain rfl : k = r.length + 1 := by omega
            go_wp2_with fail
            have h2 : (c :: r).all okC = true := by have := H.out; rwa [List.take_of_length_le (by simp)] at this
            have e1 : nameB (c :: r) = !kwB (c :: r) := by rw [E0.out, h2, hl, show decide ((c :: r).length ≤ 16) = true by simp; omega]; rfl
            have E1 := Lib.hid e1
            clear e1 h2
            refine (keywords_calls _).mono ?_
            rintro e w1 ⟨rfl, hb, hc⟩
            have HB := Lib.hid hb
            have HC := Lib.hid hc
            clear hb hc
            go_wp2_with fail
            go_loop [5] (fun i => ∃ k : Nat, k ≤ 15 ∧ i = .int .i64 k ∧ ∀ j, j < k → kws.getD j [] ≠ c :: r) (fun i => 15 - (intOf i).toNat)
            case atStart => exact ⟨0, by omega, rfl, fun j hj => by omega⟩
            case round =>
              obtain ⟨k, hk, rfl, hno⟩ := hrel
              have H := Lib.hid hno
              clear hno
              by_cases hlt : k < 15
              · have hi := HC.out k hlt
                go_wp2_with fail
                · rename_i h _
                  go_ret
                  exact ⟨by rw [E1.out, kwB_yes' hlt h]; rfl, HB.out⟩
                · rename_i h
                  go_round
                  case rel =>
                    refine ⟨k + 1, by omega, by go_num, fun j hj => ?_⟩
                    rcases Nat.lt_or_ge j k with h1 | h1
                    · exact H.out j h1
                    · obtain rfl : j = k := by omega
                      intro e
                      rw [List.getD_eq_getElem?_getD] at e
                      rw [e] at h
                      simp at h
                  case measure => simp [intOf]; omega
              · obtain rfl : k = 15 := by omega
                go_wp2_with fail
                go_ret
                exact ⟨by rw [E1.out, kwB_no H.out]; rfl, HB.out⟩
      · simp only [Bool.not_eq_true] at hl
        rw [hl] at C1
        have C1 := Lib.hid C1
        go_enter Tryd.func14, Tryd.ntmps14
        go_wp2_with fail
        refine (C1.out _).mono ?_
        rintro e w1 ⟨rfl, rfl⟩
        go_wp2_with fail
        go_ret
        exact ⟨by rw [E0.out, hl]; simp, Below.refl _ _⟩
    · have h16' : 16 < r.length + 1 := by omega
      go_enter Tryd.func14, Tryd.ntmps14
      go_wp2_with fail
      go_ret
      exact ⟨by rw [E0.out, show decide ((c :: r).length ≤ 16) = false by simp; omega]; rfl, Below.refl _ _⟩
end Go.Proofs.YthiilnhiihfknaaDoor
