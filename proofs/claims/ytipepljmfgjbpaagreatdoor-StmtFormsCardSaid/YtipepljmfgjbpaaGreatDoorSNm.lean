/-
  letter, digit: contracts, of both.
  The package's variables in memory; keyword: its contract.
  Name: its contract.
  The reference's Keywords, Name: contracts.
  fitsName, fitsExpr: contracts.
-/
import Derived.Test.YtipepljmfgjbpaaGreatDoorSBx
namespace Go.Proofs.YtipepljmfgjbpaaGreatDoor.S3
open Go Go.RowKit

theorem letter_calls (c : Int) (w : World) : Calls Tryz.prog 66 #[.int .u8 c] w fun e w' => e = .returned (.bool (lettI c)) ∧ w = w' := by
  by_cases h1 : 65 ≤ c <;> by_cases h2 : c ≤ 90 <;> by_cases h3 : 97 ≤ c <;> by_cases h4 : c ≤ 122 <;> first | (exfalso; omega) |
    (go_enter Tryz.func66, Tryz.ntmps66
     go_wp2
     go_ret
     exact ⟨by simp [lettI, h1, h2, h3, h4], rfl⟩)
theorem digit_calls (c : Int) (w : World) : Calls Tryz.prog 68 #[.int .u8 c] w fun e w' => e = .returned (.bool (digI c)) ∧ w = w' := by
  by_cases h1 : 48 ≤ c <;> by_cases h2 : c ≤ 57 <;> first | (exfalso; omega) |
    (go_enter Tryz.func68, Tryz.ntmps68
     go_wp2
     go_ret
     exact ⟨by simp [digI, h1, h2], rfl⟩)
end Go.Proofs.YtipepljmfgjbpaaGreatDoor.S3

namespace Go.Proofs.YtipepljmfgjbpaaGreatDoor.S3
open Go Go.RowKit

def kwArr : Value := Value.agg #[.string ⟨#[102, 117, 110, 99]⟩, .string ⟨#[118, 97, 114]⟩, .string ⟨#[105, 102]⟩, .string ⟨#[101, 108, 115, 101]⟩, .string ⟨#[119, 104, 105, 108, 101]⟩, .string ⟨#[114, 101, 116, 117, 114, 110]⟩, .string ⟨#[112, 114, 105, 110, 116]⟩, .string ⟨#[114, 101, 97, 100]⟩, .string ⟨#[110, 101, 119]⟩, .string ⟨#[108, 101, 110]⟩, .string ⟨#[105, 110, 116]⟩, .string ⟨#[98, 111, 111, 108]⟩, .string ⟨#[97, 114, 114, 97, 121]⟩, .string ⟨#[116, 114, 117, 101]⟩, .string ⟨#[102, 97, 108, 115, 101]⟩]
theorem kwArr_is : kwArr = Value.agg #[.string ⟨#[102, 117, 110, 99]⟩, .string ⟨#[118, 97, 114]⟩, .string ⟨#[105, 102]⟩, .string ⟨#[101, 108, 115, 101]⟩, .string ⟨#[119, 104, 105, 108, 101]⟩, .string ⟨#[114, 101, 116, 117, 114, 110]⟩, .string ⟨#[112, 114, 105, 110, 116]⟩, .string ⟨#[114, 101, 97, 100]⟩, .string ⟨#[110, 101, 119]⟩, .string ⟨#[108, 101, 110]⟩, .string ⟨#[105, 110, 116]⟩, .string ⟨#[98, 111, 111, 108]⟩, .string ⟨#[97, 114, 114, 97, 121]⟩, .string ⟨#[116, 114, 117, 101]⟩, .string ⟨#[102, 97, 108, 115, 101]⟩] := rfl
set_option maxRecDepth 100000
theorem kwi_0 : ∀ w : World, (Instr.index 107 kwArr (.int .i64 0)).run Tryz.prog w = .ok (.string ⟨#[102, 117, 110, 99]⟩) w := fun _ => by kernel_rfl
theorem kwi_1 : ∀ w : World, (Instr.index 107 kwArr (.int .i64 1)).run Tryz.prog w = .ok (.string ⟨#[118, 97, 114]⟩) w := fun _ => by kernel_rfl
theorem kwi_2 : ∀ w : World, (Instr.index 107 kwArr (.int .i64 2)).run Tryz.prog w = .ok (.string ⟨#[105, 102]⟩) w := fun _ => by kernel_rfl
theorem kwi_3 : ∀ w : World, (Instr.index 107 kwArr (.int .i64 3)).run Tryz.prog w = .ok (.string ⟨#[101, 108, 115, 101]⟩) w := fun _ => by kernel_rfl
theorem kwi_4 : ∀ w : World, (Instr.index 107 kwArr (.int .i64 4)).run Tryz.prog w = .ok (.string ⟨#[119, 104, 105, 108, 101]⟩) w := fun _ => by kernel_rfl
theorem kwi_5 : ∀ w : World, (Instr.index 107 kwArr (.int .i64 5)).run Tryz.prog w = .ok (.string ⟨#[114, 101, 116, 117, 114, 110]⟩) w := fun _ => by kernel_rfl
theorem kwi_6 : ∀ w : World, (Instr.index 107 kwArr (.int .i64 6)).run Tryz.prog w = .ok (.string ⟨#[112, 114, 105, 110, 116]⟩) w := fun _ => by kernel_rfl
theorem kwi_7 : ∀ w : World, (Instr.index 107 kwArr (.int .i64 7)).run Tryz.prog w = .ok (.string ⟨#[114, 101, 97, 100]⟩) w := fun _ => by kernel_rfl
theorem kwi_8 : ∀ w : World, (Instr.index 107 kwArr (.int .i64 8)).run Tryz.prog w = .ok (.string ⟨#[110, 101, 119]⟩) w := fun _ => by kernel_rfl
theorem kwi_9 : ∀ w : World, (Instr.index 107 kwArr (.int .i64 9)).run Tryz.prog w = .ok (.string ⟨#[108, 101, 110]⟩) w := fun _ => by kernel_rfl
theorem kwi_10 : ∀ w : World, (Instr.index 107 kwArr (.int .i64 10)).run Tryz.prog w = .ok (.string ⟨#[105, 110, 116]⟩) w := fun _ => by kernel_rfl
theorem kwi_11 : ∀ w : World, (Instr.index 107 kwArr (.int .i64 11)).run Tryz.prog w = .ok (.string ⟨#[98, 111, 111, 108]⟩) w := fun _ => by kernel_rfl
theorem kwi_12 : ∀ w : World, (Instr.index 107 kwArr (.int .i64 12)).run Tryz.prog w = .ok (.string ⟨#[97, 114, 114, 97, 121]⟩) w := fun _ => by kernel_rfl
theorem kwi_13 : ∀ w : World, (Instr.index 107 kwArr (.int .i64 13)).run Tryz.prog w = .ok (.string ⟨#[116, 114, 117, 101]⟩) w := fun _ => by kernel_rfl
theorem kwi_14 : ∀ w : World, (Instr.index 107 kwArr (.int .i64 14)).run Tryz.prog w = .ok (.string ⟨#[102, 97, 108, 115, 101]⟩) w := fun _ => by kernel_rfl

theorem kw_at (k : Nat) (h : k < 15) : ∀ w : World, (Instr.index 107 kwArr (.int .i64 (k : Int))).run Tryz.prog w = .ok (.string (B (kws.getD k []))) w := by
  match k, h with
  | 0, _ => exact kwi_0
  | 1, _ => exact kwi_1
  | 2, _ => exact kwi_2
  | 3, _ => exact kwi_3
  | 4, _ => exact kwi_4
  | 5, _ => exact kwi_5
  | 6, _ => exact kwi_6
  | 7, _ => exact kwi_7
  | 8, _ => exact kwi_8
  | 9, _ => exact kwi_9
  | 10, _ => exact kwi_10
  | 11, _ => exact kwi_11
  | 12, _ => exact kwi_12
  | 13, _ => exact kwi_13
  | 14, _ => exact kwi_14

/-- WHAT THE PACKAGE's VARIABLE keywords HOLDS. -/
structure GlobK (w : World) : Prop where
  c0 : w.cell? ⟨1, 0, none⟩ = some (.string ⟨#[102, 117, 110, 99]⟩)
  c1 : w.cell? ⟨1, 1, none⟩ = some (.string ⟨#[118, 97, 114]⟩)
  c2 : w.cell? ⟨1, 2, none⟩ = some (.string ⟨#[105, 102]⟩)
  c3 : w.cell? ⟨1, 3, none⟩ = some (.string ⟨#[101, 108, 115, 101]⟩)
  c4 : w.cell? ⟨1, 4, none⟩ = some (.string ⟨#[119, 104, 105, 108, 101]⟩)
  c5 : w.cell? ⟨1, 5, none⟩ = some (.string ⟨#[114, 101, 116, 117, 114, 110]⟩)
  c6 : w.cell? ⟨1, 6, none⟩ = some (.string ⟨#[112, 114, 105, 110, 116]⟩)
  c7 : w.cell? ⟨1, 7, none⟩ = some (.string ⟨#[114, 101, 97, 100]⟩)
  c8 : w.cell? ⟨1, 8, none⟩ = some (.string ⟨#[110, 101, 119]⟩)
  c9 : w.cell? ⟨1, 9, none⟩ = some (.string ⟨#[108, 101, 110]⟩)
  c10 : w.cell? ⟨1, 10, none⟩ = some (.string ⟨#[105, 110, 116]⟩)
  c11 : w.cell? ⟨1, 11, none⟩ = some (.string ⟨#[98, 111, 111, 108]⟩)
  c12 : w.cell? ⟨1, 12, none⟩ = some (.string ⟨#[97, 114, 114, 97, 121]⟩)
  c13 : w.cell? ⟨1, 13, none⟩ = some (.string ⟨#[116, 114, 117, 101]⟩)
  c14 : w.cell? ⟨1, 14, none⟩ = some (.string ⟨#[102, 97, 108, 115, 101]⟩)
theorem kwB_no {s : Bytes} (h : ∀ j, j < 15 → kws.getD j [] ≠ s) : kwB s = false := by
  unfold kwB
  rw [← Bool.not_eq_true, List.contains_iff_mem]
  intro hm
  obtain ⟨i, hi, he⟩ := List.getElem_of_mem hm
  have hi' : i < 15 := hi
  refine h i hi' ?_
  rw [List.getD_eq_getElem?_getD, List.getElem?_eq_getElem hi]
  exact he
theorem kwB_yes {s : Bytes} {k : Nat} (hk : k < 15) (h : (s == kws[k]?.getD []) = true) : kwB s = true := by
  unfold kwB
  rw [List.contains_iff_mem]
  have hi : k < kws.length := hk
  rw [List.getElem?_eq_getElem hi, Option.getD_some] at h
  rw [beq_iff_eq] at h
  rw [h]
  exact List.getElem_mem hi

theorem keyword_calls (s : Bytes) (w : World) (hG : GlobK w) :
    Calls Tryz.prog 67 #[.string (B s)] w fun e w' => e = .returned (.bool (kwB s)) ∧ w = w' := by
  obtain ⟨c0, c1, c2, c3, c4, c5, c6, c7, c8, c9, c10, c11, c12, c13, c14⟩ := hG
  go_enter Tryz.func67, Tryz.ntmps67
  go_wp2_with fail
  rw [← kwArr_is]
  clear c0 c1 c2 c3 c4 c5 c6 c7 c8 c9 c10 c11 c12 c13 c14
  go_loop [6] (fun i => ∃ k : Nat, k ≤ 15 ∧ i = .int .i64 k ∧ ∀ j, j < k → kws.getD j [] ≠ s) (fun i => 15 - (intOf i).toNat)
  case atStart => exact ⟨0, by omega, rfl, fun j hj => by omega⟩
  case round =>
    obtain ⟨k, hk, rfl, hno⟩ := hrel
    have H := Lib.hid hno
    clear hno
    by_cases hlt : k < 15
    · have hi := kw_at k hlt
      go_wp2_with fail
      · rename_i h _
        go_ret
        exact ⟨by rw [kwB_yes hlt h]; rfl, rfl⟩
      · rename_i h
        go_round
        case rel =>
          refine ⟨k + 1, by omega, by go_num, fun j hj => ?_⟩
          rcases Nat.lt_or_ge j k with h1 | h1
          · exact H.out j h1
          · obtain rfl : j = k := by omega
            intro e
            rw [List.getD_eq_getElem?_getD] at e
            rw [e] at h
            simp at h
        case measure => simp [intOf]; omega
    · obtain rfl : k = 15 := by omega
      go_wp2_with fail
      go_ret
      exact ⟨by rw [kwB_no H.out]; rfl, rfl⟩
end Go.Proofs.YtipepljmfgjbpaaGreatDoor.S3

namespace Go.Proofs.YtipepljmfgjbpaaGreatDoor.S3
open Go Go.RowKit

theorem take_all (l : Bytes) (k : Nat) (h : k < l.length) : (l.take (k + 1)).all okC = ((l.take k).all okC && okC (l[k])) := by
  rw [List.take_succ_eq_append_getElem h]; simp only [List.all_append, List.all_cons, List.all_nil, Bool.and_true]
theorem all_take {l : Bytes} {k : Nat} (h : l.all okC = true) : (l.take k).all okC = true := by
  rw [List.all_eq_true] at h ⊢
  exact fun x hx => h x (List.mem_of_mem_take hx)

set_option maxHeartbeats 1000000 in
theorem name_calls (s : Bytes) (hs : s.length ≤ 9223372036854775807) (w : World) (hG : GlobK w) :
    Calls Tryz.prog 60 #[.string (B s)] w fun e w' => e = .returned (.bool (nameB s)) ∧ w = w' := by
  cases s with
  | nil =>
    go_enter Tryz.func60, Tryz.ntmps60
    go_wp2_with fail
    go_ret
    exact ⟨rfl, rfl⟩
  | cons c r =>
    have e0 : nameB (c :: r) = (decide ((c :: r).length ≤ 16) && lettI (c.toNat : Int) && (c :: r).all okC && !kwB (c :: r)) := by simp [nameB]
    have E0 := Lib.hid e0
    clear e0
    by_cases h16 : r.length + 1 ≤ 16
    · have h16' : ¬ 16 < r.length + 1 := by omega
      have C1 := letter_calls (c.toNat : Int)
      have C2 := keyword_calls (c :: r) w hG
      by_cases hl : lettI (c.toNat : Int) = true
      · rw [hl] at C1
        have C1 := Lib.hid C1
        by_cases hk : kwB (c :: r) = true
        · rw [hk] at C2
          have C2 := Lib.hid C2
          go_enter Tryz.func60, Tryz.ntmps60
          go_wp2_with fail
          refine (C1.out _).mono ?_
          rintro e w1 ⟨rfl, rfl⟩
          go_wp2_with fail
          refine C2.out.mono ?_
          rintro e w1 ⟨rfl, rfl⟩
          go_wp2_with fail
          go_ret
          exact ⟨by rw [E0.out, hl, hk]; simp, rfl⟩
        · simp only [Bool.not_eq_true] at hk
          rw [hk] at C2
          have C2 := Lib.hid C2
          go_enter Tryz.func60, Tryz.ntmps60
          go_wp2_with fail
          refine (C1.out _).mono ?_
          rintro e w1 ⟨rfl, rfl⟩
          go_wp2_with fail
          refine C2.out.mono ?_
          rintro e w1 ⟨rfl, rfl⟩
          go_wp2_with fail
          go_loop [23] (fun i => ∃ k : Nat, k ≤ r.length + 1 ∧ i = .int .i64 k ∧ ((c :: r).take k).all okC = true) (fun i => r.length + 1 - (intOf i).toNat)
          case atStart => exact ⟨0, by omega, rfl, rfl⟩
          case round =>
            obtain ⟨k, hk', rfl, hall⟩ := hrel
            have H := Lib.hid hall
            clear hall
            by_cases hlt : k < r.length + 1
            · have hb : k < (B (c :: r)).size := by show k < (c :: r).toArray.size; simpa using hlt
              have hsn : ((c :: r).take (k + 1)).all okC = (((c :: r).take k).all okC && okC ((B (c :: r))[k]'hb)) := by rw [take_all (c :: r) k (by simpa using hlt)]; rfl
              have HS := Lib.hid hsn
              clear hsn
              by_cases e1 : lettI (((B (c :: r))[k]'hb).toNat : Int) = true
              · go_wp2_with fail
                refine (letter_calls _ _).mono ?_
                rintro e w1 ⟨rfl, rfl⟩
                go_wp2_with fail
                go_round
                case rel => exact ⟨k + 1, by omega, by go_num, by rw [HS.out, H.out]; simp [okC, e1]⟩
                case measure => simp [intOf]; omega
              · simp only [Bool.not_eq_true] at e1
                by_cases e2 : digI (((B (c :: r))[k]'hb).toNat : Int) = true
                · go_wp2_with fail
                  refine (letter_calls _ _).mono ?_
                  rintro e w1 ⟨rfl, rfl⟩
                  go_wp2_with fail
                  refine (digit_calls _ _).mono ?_
                  rintro e w1 ⟨rfl, rfl⟩
                  go_wp2_with fail
                  go_round
                  case rel => exact ⟨k + 1, by omega, by go_num, by rw [HS.out, H.out]; simp [okC, e2]⟩
                  case measure => simp [intOf]; omega
                · simp only [Bool.not_eq_true] at e2
                  by_cases e3 : (B (c :: r))[k]'hb = 95
                  · have e4 : ((((B (c :: r))[k]'hb).toNat : Int) != 95) = false := by rw [e3]; rfl
                    have E3 := Lib.hid e3
                    clear e3
                    go_wp2_with fail
                    refine (letter_calls _ _).mono ?_
                    rintro e w1 ⟨rfl, rfl⟩
                    go_wp2_with fail
                    refine (digit_calls _ _).mono ?_
                    rintro e w1 ⟨rfl, rfl⟩
                    go_wp2_with fail
                    go_round
                    case rel => exact ⟨k + 1, by omega, by go_num, by rw [HS.out, H.out, E3.out]; rfl⟩
                    case measure => simp [intOf]; omega
                  · have e4 : ((((B (c :: r))[k]'hb).toNat : Int) != 95) = true := by
                      rw [bne_iff_ne]; intro h; exact e3 (UInt8.toNat_inj.1 (by simpa using (show ((B (c :: r))[k]'hb).toNat = 95 by omega)))
                    have e5 : (c :: r).all okC = false := by
                      have h1 : ((c :: r).take (k + 1)).all okC = false := by rw [HS.out]; simp [okC, e1, e2]; intro _ h; exact e3 (UInt8.toNat_inj.1 h)
                      rw [← Bool.not_eq_true] at h1 ⊢
                      exact fun h => h1 (all_take h)
                    have E5 := Lib.hid e5
                    clear e5 e3
                    go_wp2_with fail
                    refine (letter_calls _ _).mono ?_
                    rintro e w1 ⟨rfl, rfl⟩
                    go_wp2_with fail
                    refine (digit_calls _ _).mono ?_
                    rintro e w1 ⟨rfl, rfl⟩
                    go_wp2_with fail
                    go_ret
                    exact ⟨by rw [E0.out, E5.out]; simp, rfl⟩
            · obtain rfl : k = r.length + 1 := by omega
              go_wp2_with fail
              go_ret
              have h2 : (c :: r).all okC = true := by have := H.out; rwa [List.take_of_length_le (by simp)] at this
              exact ⟨by rw [E0.out, h2, hl, hk, show decide ((c :: r).length ≤ 16) = true by simp; omega]; rfl, rfl⟩
      · simp only [Bool.not_eq_true] at hl
        rw [hl] at C1
        have C1 := Lib.hid C1
        clear C2
        go_enter Tryz.func60, Tryz.ntmps60
        go_wp2_with fail
        refine (C1.out _).mono ?_
        rintro e w1 ⟨rfl, rfl⟩
        go_wp2_with fail
        go_ret
        exact ⟨by rw [E0.out, hl]; simp, rfl⟩
    · have h16' : 16 < r.length + 1 := by omega
      go_enter Tryz.func60, Tryz.ntmps60
      go_wp2_with fail
      go_ret
      exact ⟨by rw [E0.out, show decide ((c :: r).length ≤ 16) = false by simp; omega]; rfl, rfl⟩
end Go.Proofs.YtipepljmfgjbpaaGreatDoor.S3

namespace Go.Proofs.YtipepljmfgjbpaaGreatDoor.S3
open Go Go.RowKit

theorem kwB_yes' {s : Bytes} {k : Nat} (hk : k < 15) (h : (kws[k]?.getD [] == s) = true) : kwB s = true := kwB_yes hk (by rw [beq_iff_eq] at h ⊢; exact h.symm)
end Go.Proofs.YtipepljmfgjbpaaGreatDoor.S3

namespace Go.Proofs.YtipepljmfgjbpaaGreatDoor.S3
open Go Go.RowKit

def ekRows : List ERow := [⟨0, 0, 0, 0, 0⟩, ⟨0, 0, 0, 9223372036854775807, 0⟩, ⟨0, 0, 0, 1, 0⟩, ⟨2, 0, 0, 0, 0⟩, ⟨0, 14, 15, 0, 1⟩, ⟨0, 1, 13, 0, 2⟩, ⟨2, 0, 0, 0, 1⟩, ⟨2, 0, 0, 0, 0⟩]
structure EkCells (w : World) (k : Nat) (r : ERow) : Prop where
  c0 : w.cell? ⟨3, k * 5, none⟩ = some (.int .i64 r.name)
  c1 : w.cell? ⟨3, k * 5 + 1, none⟩ = some (.int .i64 r.first)
  c2 : w.cell? ⟨3, k * 5 + 2, none⟩ = some (.int .i64 r.last)
  c3 : w.cell? ⟨3, k * 5 + 3, none⟩ = some (.int .i64 r.most)
  c4 : w.cell? ⟨3, k * 5 + 4, none⟩ = some (.int .i64 (r.args : Int))
/-- WHAT THE PACKAGE's VARIABLES HOLD. -/
structure Glob (w : World) : Prop where
  kw : GlobK w
  ek : ∀ k r, ekRows[k]? = some r → EkCells w k r
  lt : 6 < w.heap.size
theorem Glob.keep {w w' : World} (h : Glob w) (hs : w.heap.size ≤ w'.heap.size) (hk : ∀ b i, b ≤ 6 → w'.cell? ⟨b, i, none⟩ = w.cell? ⟨b, i, none⟩) : Glob w' := by
  obtain ⟨⟨c0, c1, c2, c3, c4, c5, c6, c7, c8, c9, c10, c11, c12, c13, c14⟩, h2, h4⟩ := h
  refine ⟨⟨(hk _ _ (by decide)).trans c0, (hk _ _ (by decide)).trans c1, (hk _ _ (by decide)).trans c2, (hk _ _ (by decide)).trans c3, (hk _ _ (by decide)).trans c4, (hk _ _ (by decide)).trans c5, (hk _ _ (by decide)).trans c6, (hk _ _ (by decide)).trans c7, (hk _ _ (by decide)).trans c8, (hk _ _ (by decide)).trans c9, (hk _ _ (by decide)).trans c10, (hk _ _ (by decide)).trans c11, (hk _ _ (by decide)).trans c12, (hk _ _ (by decide)).trans c13, (hk _ _ (by decide)).trans c14⟩, fun k r hr => ?_, by omega⟩
  · obtain ⟨a0, a1, a2, a3, a4⟩ := h2 k r hr
    exact ⟨(hk _ _ (by decide)).trans a0, (hk _ _ (by decide)).trans a1, (hk _ _ (by decide)).trans a2, (hk _ _ (by decide)).trans a3, (hk _ _ (by decide)).trans a4⟩
theorem Glob.bel {w w' : World} {M : Nat} (h : Glob w) (hM : 6 < M) (hb : Below M w w') : Glob w' := h.keep hb.size fun b i hl => hb.cell (p := ⟨b, i, none⟩) (by show b < M; omega)
theorem Glob.up {w w' : World} (h : Glob w) (hb : Below w.heap.size w w') : Glob w' := h.bel h.lt hb

theorem Glob.al {w : World} (h : Glob w) (o : Obj) : Glob (w.alloc o) := h.up ((Below.refl _ w).alloc (Nat.le_refl _) o)

theorem fitsName_calls (s : Bytes) (how : Int) (hs : s.length ≤ 9223372036854775807) (w : World) (hG : Glob w) :
    Calls Tryz.prog 107 #[.string (B s), .int .i64 how] w fun e w' => e = .returned (.bool (howB s how)) ∧ w = w' := by
  have N := name_calls s hs w hG.kw
  have HN := Lib.hid N
  clear N hG
  cases s with
  | nil =>
    go_enter Tryz.func107, Tryz.ntmps107
    go_wp2_with fail
    go_ret
    exact ⟨by simp [howB]; rfl, rfl⟩
  | cons c r =>
    have e1 : howB (c :: r) how = (decide (how ≠ 0) && nameB (c :: r)) := by simp [howB]
    have E1 := Lib.hid e1
    clear e1
    by_cases h : how = 0
    · subst h
      go_enter Tryz.func107, Tryz.ntmps107
      go_wp2_with fail
      go_ret
      exact ⟨by rw [E1.out]; simp, rfl⟩
    · have h1 : (how != 0) = true := by simpa using h
      have H := Lib.hid h
      clear h
      go_enter Tryz.func107, Tryz.ntmps107
      go_wp2_with fail
      refine HN.out.mono ?_
      rintro e w1 ⟨rfl, rfl⟩
      go_wp2_with fail
      go_ret
      exact ⟨by rw [E1.out]; simp [H.out], rfl⟩

set_option maxHeartbeats 4000000 in
theorem fitsExpr_row (k : Nat) (hk1 : 1 ≤ k) (hk7 : k ≤ 7) (op num : Int) (name : Bytes) (args : List Ex) (A : Option Addr) (c : Nat) (r : ERow) (hr : ekRows[k]? = some r) (hn : name.length ≤ 9223372036854775807) (w : World) (hG : Glob w) :
    Calls Tryz.prog 103 #[.agg #[.int .i64 (k : Int), .int .i64 op, .int .i64 num, .string (B name), .slice A args.length c]] w fun e w' => e = .returned (.bool (rowFit r ⟨k, op, num, name, args⟩)) ∧ Below w.heap.size w w' := by
  obtain ⟨c0, c1, c2, c3, c4⟩ := hG.ek k r hr
  have hlt : 3 < w.heap.size := by have := hG.lt; omega
  have HG := Lib.hid hG
  clear hG hr
  by_cases h0 : howB name r.name = true
  · by_cases h1 : r.first ≤ op
    · by_cases h2 : op ≤ r.last
      · by_cases h3 : 0 ≤ num
        · by_cases h4 : num ≤ r.most
          · by_cases h5 : args.length = r.args
            · have h5' : ((args.length : Int) == (r.args : Int)) = true := by simp [h5]
              have F := Lib.hid (show rowFit r ⟨k, op, num, name, args⟩ = true by simp [rowFit, h0, h1, h2, h3, h4, h5])
              go_enter Tryz.func103, Tryz.ntmps103
              go_wp2_with fail
              refine (fitsName_calls name r.name hn _ ((HG.out.al _).al _)).mono ?_
              rintro e w1 ⟨rfl, rfl⟩
              go_wp2_with fail
              go_ret
              exact ⟨by rw [F.out]; rfl, ((Below.refl _ w).alloc (Nat.le_refl _) _).alloc (by simp) _⟩
            · have h5' : ((args.length : Int) == (r.args : Int)) = false := by simp; omega
              have F := Lib.hid (show rowFit r ⟨k, op, num, name, args⟩ = false by simp [rowFit, h0, h1, h2, h3, h4, h5])
              go_enter Tryz.func103, Tryz.ntmps103
              go_wp2_with fail
              refine (fitsName_calls name r.name hn _ ((HG.out.al _).al _)).mono ?_
              rintro e w1 ⟨rfl, rfl⟩
              go_wp2_with fail
              go_ret
              exact ⟨by rw [F.out]; rfl, ((Below.refl _ w).alloc (Nat.le_refl _) _).alloc (by simp) _⟩
          · have F := Lib.hid (show rowFit r ⟨k, op, num, name, args⟩ = false by simp [rowFit, h0, h1, h2, h3, h4])
            go_enter Tryz.func103, Tryz.ntmps103
            go_wp2_with fail
            refine (fitsName_calls name r.name hn _ ((HG.out.al _).al _)).mono ?_
            rintro e w1 ⟨rfl, rfl⟩
            go_wp2_with fail
            go_ret
            exact ⟨by rw [F.out]; rfl, ((Below.refl _ w).alloc (Nat.le_refl _) _).alloc (by simp) _⟩
        · have F := Lib.hid (show rowFit r ⟨k, op, num, name, args⟩ = false by simp [rowFit, h0, h1, h2, h3])
          go_enter Tryz.func103, Tryz.ntmps103
          go_wp2_with fail
          refine (fitsName_calls name r.name hn _ ((HG.out.al _).al _)).mono ?_
          rintro e w1 ⟨rfl, rfl⟩
          go_wp2_with fail
          go_ret
          exact ⟨by rw [F.out]; rfl, ((Below.refl _ w).alloc (Nat.le_refl _) _).alloc (by simp) _⟩
      · have F := Lib.hid (show rowFit r ⟨k, op, num, name, args⟩ = false by simp [rowFit, h0, h1, h2])
        go_enter Tryz.func103, Tryz.ntmps103
        go_wp2_with fail
        refine (fitsName_calls name r.name hn _ ((HG.out.al _).al _)).mono ?_
        rintro e w1 ⟨rfl, rfl⟩
        go_wp2_with fail
        go_ret
        exact ⟨by rw [F.out]; rfl, ((Below.refl _ w).alloc (Nat.le_refl _) _).alloc (by simp) _⟩
    · have F := Lib.hid (show rowFit r ⟨k, op, num, name, args⟩ = false by simp [rowFit, h0, h1])
      go_enter Tryz.func103, Tryz.ntmps103
      go_wp2_with fail
      refine (fitsName_calls name r.name hn _ ((HG.out.al _).al _)).mono ?_
      rintro e w1 ⟨rfl, rfl⟩
      go_wp2_with fail
      go_ret
      exact ⟨by rw [F.out]; rfl, ((Below.refl _ w).alloc (Nat.le_refl _) _).alloc (by simp) _⟩
  · simp only [Bool.not_eq_true] at h0
    have F := Lib.hid (show rowFit r ⟨k, op, num, name, args⟩ = false by simp [rowFit, h0])
    go_enter Tryz.func103, Tryz.ntmps103
    go_wp2_with fail
    refine (fitsName_calls name r.name hn _ ((HG.out.al _).al _)).mono ?_
    rintro e w1 ⟨rfl, rfl⟩
    go_wp2_with fail
    go_ret
    exact ⟨by rw [F.out]; rfl, ((Below.refl _ w).alloc (Nat.le_refl _) _).alloc (by simp) _⟩

theorem exRow_ek {k : Nat} (h1 : 1 ≤ k) (h7 : k ≤ 7) : ∃ r, exRow (k : Int) = some r ∧ ekRows[k]? = some r := by
  match k, h1, h7 with
  | 1, _, _ | 2, _, _ | 3, _, _ | 4, _, _ | 5, _, _ | 6, _, _ | 7, _, _ => exact ⟨_, rfl, rfl⟩
theorem exRow_none {k : Int} (h : k < 1 ∨ 7 < k) : exRow k = none := by
  unfold exRow
  rw [if_neg (by omega), if_neg (by omega), if_neg (by omega), if_neg (by omega), if_neg (by omega), if_neg (by omega), if_neg (by omega)]
theorem fitsExpr_calls (e : Ex) (ho : OkE e) (A : Option Addr) (c : Nat) (w : World) (hG : Glob w) :
    Calls Tryz.prog 103 #[eV e (.slice A e.args.length c)] w fun x w' => x = .returned (.bool (fitB e)) ∧ Below w.heap.size w w' := by
  obtain ⟨kind, op, num, name, args⟩ := e
  have hn := ho.name
  simp only at hn
  by_cases hk : kind < 1
  · have F := Lib.hid (show fitB ⟨kind, op, num, name, args⟩ = false by simp [fitB, exRow_none (.inl hk)])
    go_enter Tryz.func103, Tryz.ntmps103
    go_wp2_with fail
    go_ret
    exact ⟨by rw [F.out]; rfl, (Below.refl _ w).alloc (Nat.le_refl _) _⟩
  · by_cases hk7 : 7 < kind
    · have F := Lib.hid (show fitB ⟨kind, op, num, name, args⟩ = false by simp [fitB, exRow_none (.inr hk7)])
      go_enter Tryz.func103, Tryz.ntmps103
      go_wp2_with fail
      go_ret
      exact ⟨by rw [F.out]; rfl, (Below.refl _ w).alloc (Nat.le_refl _) _⟩
    · obtain ⟨k, rfl⟩ := Int.eq_ofNat_of_zero_le (show 0 ≤ kind by omega)
      obtain ⟨r, h1, h2⟩ := exRow_ek (k := k) (by omega) (by omega)
      rw [show fitB ⟨k, op, num, name, args⟩ = rowFit r ⟨k, op, num, name, args⟩ by unfold fitB; rw [h1]]
      exact fitsExpr_row k (by omega) (by omega) op num name args A c r h2 hn w hG
end Go.Proofs.YtipepljmfgjbpaaGreatDoor.S3
