/-
  The reference's Keywords, Name: contracts.
-/
import Derived.Test.YtodicpnojcaanaaDoorSNameW
namespace Go.Proofs.YtodicpnojcaanaaDoor
open Go Go.RowKit

theorem keywords_calls (w : World) :
    Calls Tryd.prog 46 #[] w fun e w' => e = .returned (.slice (some ⟨w.heap.size, 0, none⟩) 15 15) ∧ Below w.heap.size w w' ∧ (∀ k, k < 15 → w'.cell? ⟨w.heap.size, k, none⟩ = some (.string (B (kws.getD k [])))) := by
  go_enter Tryd.func46, Tryd.ntmps46
  go_wp2
  go_ret
  refine ⟨rfl, (Below.refl _ w).alloc (Nat.le_refl _) _, fun k hk => ?_⟩
  rw [cell_of_row _ _ k _ _ _ (heap_alloc_new w _)]
  match k, hk with
  | 0, _ | 1, _ | 2, _ | 3, _ | 4, _ | 5, _ | 6, _ | 7, _ | 8, _ | 9, _ | 10, _ | 11, _ | 12, _ | 13, _ | 14, _ => rfl

theorem kwB_yes' {s : Bytes} {k : Nat} (hk : k < 15) (h : (kws[k]?.getD [] == s) = true) : kwB s = true := kwB_yes hk (by rw [beq_iff_eq] at h ⊢; exact h.symm)
set_option maxHeartbeats 1000000 in
theorem refName_calls (s : Bytes) (hs : s.length ≤ 9223372036854775807) (w : World) :
    Calls Tryd.prog 14 #[.string (B s)] w fun e w' => e = .returned (.bool (nameB s)) ∧ Below w.heap.size w w' := by
  cases s with
  | nil =>
    go_enter Tryd.func14, Tryd.ntmps14
    go_wp2_with fail
    go_ret
    exact ⟨rfl, Below.refl _ _⟩
  | cons c r =>
    have e0 : nameB (c :: r) = (decide ((c :: r).length ≤ 16) && lettI (c.toNat : Int) && (c :: r).all okC && !kwB (c :: r)) := by simp [nameB]
    have E0 := Lib.hid e0
    clear e0
    by_cases h16 : r.length + 1 ≤ 16
    · have h16' : ¬ 16 < r.length + 1 := by omega
      have C1 := refLetter_calls (c.toNat : Int)
      by_cases hl : lettI (c.toNat : Int) = true
      · rw [hl] at C1
        have C1 := Lib.hid C1
        go_enter Tryd.func14, Tryd.ntmps14
        go_wp2_with fail
        refine (C1.out _).mono ?_
        rintro e w1 ⟨rfl, rfl⟩
        go_wp2_with fail
        go_loop [3] (fun i => ∃ k : Nat, k ≤ r.length + 1 ∧ i = .int .i64 k ∧ ((c :: r).take k).all okC = true) (fun i => r.length + 1 - (intOf i).toNat)
        case atStart => exact ⟨0, by omega, rfl, rfl⟩
        case round =>
          obtain ⟨k, hk', rfl, hall⟩ := hrel
          have H := Lib.hid hall
          clear hall
          by_cases hlt : k < r.length + 1
          · have hb : k < (B (c :: r)).size := by show k < (c :: r).toArray.size; simpa using hlt
            have hsn : ((c :: r).take (k + 1)).all okC = (((c :: r).take k).all okC && okC ((B (c :: r))[k]'hb)) := by rw [take_all (c :: r) k (by simpa using hlt)]; rfl
            have HS := Lib.hid hsn
            clear hsn
            by_cases e1 : lettI (((B (c :: r))[k]'hb).toNat : Int) = true
            · go_wp2_with fail
              refine (refLetter_calls _ _).mono ?_
              rintro e w1 ⟨rfl, rfl⟩
              go_wp2_with fail
              go_round
              case rel => exact ⟨k + 1, by omega, by go_num, by rw [HS.out, H.out]; simp [okC, e1]⟩
              case measure => simp [intOf]; omega
            · simp only [Bool.not_eq_true] at e1
              by_cases e2 : digI (((B (c :: r))[k]'hb).toNat : Int) = true
              · go_wp2_with fail
                refine (refLetter_calls _ _).mono ?_
                rintro e w1 ⟨rfl, rfl⟩
                go_wp2_with fail
                refine (refDigit_calls _ _).mono ?_
                rintro e w1 ⟨rfl, rfl⟩
                go_wp2_with fail
                go_round
                case rel => exact ⟨k + 1, by omega, by go_num, by rw [HS.out, H.out]; simp [okC, e2]⟩
                case measure => simp [intOf]; omega
              · simp only [Bool.not_eq_true] at e2
                by_cases e3 : (B (c :: r))[k]'hb = 95
                · have e4 : ((((B (c :: r))[k]'hb).toNat : Int) != 95) = false := by rw [e3]; rfl
                  have E3 := Lib.hid e3
                  clear e3
                  go_wp2_with fail
                  refine (refLetter_calls _ _).mono ?_
                  rintro e w1 ⟨rfl, rfl⟩
                  go_wp2_with fail
                  refine (refDigit_calls _ _).mono ?_
                  rintro e w1 ⟨rfl, rfl⟩
                  go_wp2_with fail
                  go_round
                  case rel => exact ⟨k + 1, by omega, by go_num, by rw [HS.out, H.out, E3.out]; rfl⟩
                  case measure => simp [intOf]; omega
                · have e4 : ((((B (c :: r))[k]'hb).toNat : Int) != 95) = true := by
                    rw [bne_iff_ne]; intro h; exact e3 (UInt8.toNat_inj.1 (by simpa using (show ((B (c :: r))[k]'hb).toNat = 95 by omega)))
                  have e5 : (c :: r).all okC = false := by
                    have h1 : ((c :: r).take (k + 1)).all okC = false := by rw [HS.out]; simp [okC, e1, e2]; intro _ h; exact e3 (UInt8.toNat_inj.1 h)
                    rw [← Bool.not_eq_true] at h1 ⊢
                    exact fun h => h1 (all_take h)
                  have E5 := Lib.hid e5
                  clear e5 e3
                  go_wp2_with fail
                  refine (refLetter_calls _ _).mono ?_
                  rintro e w1 ⟨rfl, rfl⟩
                  go_wp2_with fail
                  refine (refDigit_calls _ _).mono ?_
                  rintro e w1 ⟨rfl, rfl⟩
                  go_wp2_with fail
                  go_ret
                  exact ⟨by rw [E0.out, E5.out]; simp, Below.refl _ _⟩
          · obtain rfl : k = r.length + 1 := by omega
            go_wp2_with fail
            have h2 : (c :: r).all okC = true := by have := H.out; rwa [List.take_of_length_le (by simp)] at this
            have e1 : nameB (c :: r) = !kwB (c :: r) := by rw [E0.out, h2, hl, show decide ((c :: r).length ≤ 16) = true by simp; omega]; rfl
            have E1 := Lib.hid e1
            clear e1 h2
            refine (keywords_calls _).mono ?_
            rintro e w1 ⟨rfl, hb, hc⟩
            have HB := Lib.hid hb
            have HC := Lib.hid hc
            clear hb hc
            go_wp2_with fail
            go_loop [5] (fun i => ∃ k : Nat, k ≤ 15 ∧ i = .int .i64 k ∧ ∀ j, j < k → kws.getD j [] ≠ c :: r) (fun i => 15 - (intOf i).toNat)
            case atStart => exact ⟨0, by omega, rfl, fun j hj => by omega⟩
            case round =>
              obtain ⟨k, hk, rfl, hno⟩ := hrel
              have H := Lib.hid hno
              clear hno
              by_cases hlt : k < 15
              · have hi := HC.out k hlt
                go_wp2_with fail
                · rename_i h _
                  go_ret
                  exact ⟨by rw [E1.out, kwB_yes' hlt h]; rfl, HB.out⟩
                · rename_i h
                  go_round
                  case rel =>
                    refine ⟨k + 1, by omega, by go_num, fun j hj => ?_⟩
                    rcases Nat.lt_or_ge j k with h1 | h1
                    · exact H.out j h1
                    · obtain rfl : j = k := by omega
                      intro e
                      rw [List.getD_eq_getElem?_getD] at e
                      rw [e] at h
                      simp at h
                  case measure => simp [intOf]; omega
              · obtain rfl : k = 15 := by omega
                go_wp2_with fail
                go_ret
                exact ⟨by rw [E1.out, kwB_no H.out]; rfl, HB.out⟩
      · simp only [Bool.not_eq_true] at hl
        rw [hl] at C1
        have C1 := Lib.hid C1
        go_enter Tryd.func14, Tryd.ntmps14
        go_wp2_with fail
        refine (C1.out _).mono ?_
        rintro e w1 ⟨rfl, rfl⟩
        go_wp2_with fail
        go_ret
        exact ⟨by rw [E0.out, hl]; simp, Below.refl _ _⟩
    · have h16' : 16 < r.length + 1 := by omega
      go_enter Tryd.func14, Tryd.ntmps14
      go_wp2_with fail
      go_ret
      exact ⟨by rw [E0.out, show decide ((c :: r).length ≤ 16) = false by simp; omega]; rfl, Below.refl _ _⟩
end Go.Proofs.YtodicpnojcaanaaDoor
