/-
  Name: its contract.
-/
import Derived.Test.YtodicpnojcaanaaDoorSKw
namespace Go.Proofs.YtodicpnojcaanaaDoor
open Go Go.RowKit

theorem take_all (l : Bytes) (k : Nat) (h : k < l.length) : (l.take (k + 1)).all okC = ((l.take k).all okC && okC (l[k])) := by
  rw [List.take_succ_eq_append_getElem h]; simp only [List.all_append, List.all_cons, List.all_nil, Bool.and_true]
theorem all_take {l : Bytes} {k : Nat} (h : l.all okC = true) : (l.take k).all okC = true := by
  rw [List.all_eq_true] at h ⊢
  exact fun x hx => h x (List.mem_of_mem_take hx)

set_option maxHeartbeats 1000000 in
theorem name_calls (s : Bytes) (hs : s.length ≤ 9223372036854775807) (w : World) (hG : GlobK w) :
    Calls Tryd.prog 13 #[.string (B s)] w fun e w' => e = .returned (.bool (nameB s)) ∧ w = w' := by
  cases s with
  | nil =>
    go_enter Tryd.func13, Tryd.ntmps13
    go_wp2_with fail
    go_ret
    exact ⟨rfl, rfl⟩
  | cons c r =>
    have e0 : nameB (c :: r) = (decide ((c :: r).length ≤ 16) && lettI (c.toNat : Int) && (c :: r).all okC && !kwB (c :: r)) := by simp [nameB]
    have E0 := Lib.hid e0
    clear e0
    by_cases h16 : r.length + 1 ≤ 16
    · have h16' : ¬ 16 < r.length + 1 := by omega
      have C1 := letter_calls (c.toNat : Int)
      have C2 := keyword_calls (c :: r) w hG
      by_cases hl : lettI (c.toNat : Int) = true
      · rw [hl] at C1
        have C1 := Lib.hid C1
        by_cases hk : kwB (c :: r) = true
        · rw [hk] at C2
          have C2 := Lib.hid C2
          go_enter Tryd.func13, Tryd.ntmps13
          go_wp2_with fail
          refine (C1.out _).mono ?_
          rintro e w1 ⟨rfl, rfl⟩
          go_wp2_with fail
          refine C2.out.mono ?_
          rintro e w1 ⟨rfl, rfl⟩
          go_wp2_with fail
          go_ret
          exact ⟨by rw [E0.out, hl, hk]; simp, rfl⟩
        · simp only [Bool.not_eq_true] at hk
          rw [hk] at C2
          have C2 := Lib.hid C2
          go_enter Tryd.func13, Tryd.ntmps13
          go_wp2_with fail
          refine (C1.out _).mono ?_
          rintro e w1 ⟨rfl, rfl⟩
          go_wp2_with fail
          refine C2.out.mono ?_
          rintro e w1 ⟨rfl, rfl⟩
          go_wp2_with fail
          go_loop [23] (fun i => ∃ k : Nat, k ≤ r.length + 1 ∧ i = .int .i64 k ∧ ((c :: r).take k).all okC = true) (fun i => r.length + 1 - (intOf i).toNat)
          case atStart => exact ⟨0, by omega, rfl, rfl⟩
          case round =>
            obtain ⟨k, hk', rfl, hall⟩ := hrel
            have H := Lib.hid hall
            clear hall
            by_cases hlt : k < r.length + 1
            · have hb : k < (B (c :: r)).size := by show k < (c :: r).toArray.size; simpa using hlt
              have hsn : ((c :: r).take (k + 1)).all okC = (((c :: r).take k).all okC && okC ((B (c :: r))[k]'hb)) := by rw [take_all (c :: r) k (by simpa using hlt)]; rfl
              have HS := Lib.hid hsn
              clear hsn
              by_cases e1 : lettI (((B (c :: r))[k]'hb).toNat : Int) = true
              · go_wp2_with fail
                refine (letter_calls _ _).mono ?_
                rintro e w1 ⟨rfl, rfl⟩
                go_wp2_with fail
                go_round
                case rel => exact ⟨k + 1, by omega, by go_num, by rw [HS.out, H.out]; simp [okC, e1]⟩
                case measure => simp [intOf]; omega
              · simp only [Bool.not_eq_true] at e1
                by_cases e2 : digI (((B (c :: r))[k]'hb).toNat : Int) = true
                · go_wp2_with fail
                  refine (letter_calls _ _).mono ?_
                  rintro e w1 ⟨rfl, rfl⟩
                  go_wp2_with fail
                  refine (digit_calls _ _).mono ?_
                  rintro e w1 ⟨rfl, rfl⟩
                  go_wp2_with fail
                  go_round
                  case rel => exact ⟨k + 1, by omega, by go_num, by rw [HS.out, H.out]; simp [okC, e2]⟩
                  case measure => simp [intOf]; omega
                · simp only [Bool.not_eq_true] at e2
                  by_cases e3 : (B (c :: r))[k]'hb = 95
                  · have e4 : ((((B (c :: r))[k]'hb).toNat : Int) != 95) = false := by rw [e3]; rfl
                    have E3 := Lib.hid e3
                    clear e3
                    go_wp2_with fail
                    refine (letter_calls _ _).mono ?_
                    rintro e w1 ⟨rfl, rfl⟩
                    go_wp2_with fail
                    refine (digit_calls _ _).mono ?_
                    rintro e w1 ⟨rfl, rfl⟩
                    go_wp2_with fail
                    go_round
                    case rel => exact ⟨k + 1, by omega, by go_num, by rw [HS.out, H.out, E3.out]; rfl⟩
                    case measure => simp [intOf]; omega
                  · have e4 : ((((B (c :: r))[k]'hb).toNat : Int) != 95) = true := by
                      rw [bne_iff_ne]; intro h; exact e3 (UInt8.toNat_inj.1 (by simpa using (show ((B (c :: r))[k]'hb).toNat = 95 by omega)))
                    have e5 : (c :: r).all okC = false := by
                      have h1 : ((c :: r).take (k + 1)).all okC = false := by rw [HS.out]; simp [okC, e1, e2]; intro _ h; exact e3 (UInt8.toNat_inj.1 h)
                      rw [← Bool.not_eq_true] at h1 ⊢
                      exact fun h => h1 (all_take h)
                    have E5 := Lib.hid e5
                    clear e5 e3
                    go_wp2_with fail
                    refine (letter_calls _ _).mono ?_
                    rintro e w1 ⟨rfl, rfl⟩
                    go_wp2_with fail
                    refine (digit_calls _ _).mono ?_
                    rintro e w1 ⟨rfl, rfl⟩
                    go_wp2_with fail
                    go_ret
                    exact ⟨by rw [E0.out, E5.out]; simp, rfl⟩
            · obtain rfl : k = r.length + 1 := by omega
              go_wp2_with fail
              go_ret
              have h2 : (c :: r).all okC = true := by have := H.out; rwa [List.take_of_length_le (by simp)] at this
              exact ⟨by rw [E0.out, h2, hl, hk, show decide ((c :: r).length ≤ 16) = true by simp; omega]; rfl, rfl⟩
      · simp only [Bool.not_eq_true] at hl
        rw [hl] at C1
        have C1 := Lib.hid C1
        clear C2
        go_enter Tryd.func13, Tryd.ntmps13
        go_wp2_with fail
        refine (C1.out _).mono ?_
        rintro e w1 ⟨rfl, rfl⟩
        go_wp2_with fail
        go_ret
        exact ⟨by rw [E0.out, hl]; simp, rfl⟩
    · have h16' : 16 < r.length + 1 := by omega
      go_enter Tryd.func13, Tryd.ntmps13
      go_wp2_with fail
      go_ret
      exact ⟨by rw [E0.out, show decide ((c :: r).length ≤ 16) = false by simp; omega]; rfl, rfl⟩
end Go.Proofs.YtodicpnojcaanaaDoor
