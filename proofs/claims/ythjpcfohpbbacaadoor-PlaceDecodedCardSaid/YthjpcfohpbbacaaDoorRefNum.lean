/-
  rewindref01: digits, number: contracts.
-/
import Derived.Test.YthjpcfohpbbacaaDoorNum
import Derived.Test.YthjpcfohpbbacaaDoorParse
import Derived.Deep.QuietTactic
import Derived.LoopTactic
import Derived.WalkSpells
namespace Go.Proofs.YthjpcfohpbbacaaDoor
open Go Go.RowKit Go.Shelf Go.Sort

abbrev ten : ByteArray := ⟨#[48, 49, 50, 51, 52, 53, 54, 55, 56, 57]⟩
theorem ten_at : ∀ k : Fin 10, ten.extract k.val (k.val + 1) = ⟨#[UInt8.ofNat (48 + k.val)]⟩ := by decide +kernel
theorem itoa_split (n : Nat) (h : ¬ n < 10) : Lib.itoa (n : Int) = Lib.itoa ((n / 10 : Nat) : Int) ++ Lib.itoa ((n % 10 : Nat) : Int) := by
  rw [itoa_nn, itoa_nn, itoa_nn, Lib.decDigits, dif_neg h, Lib.decDigits_one (i := n % 10) (by omega)]

set_option maxRecDepth 100000 in
set_option maxHeartbeats 1000000 in
theorem digits_any (k : Nat) : ∀ (n : Nat) (w : World), n < k → n ≤ 9223372036854775807 →
    Calls Tryd.prog 35 #[.int .i64 n] w fun e w' => e = .returned (.string (B (Lib.itoa n))) ∧ w = w' := by
  induction k with
  | zero => intro n w h; omega
  | succ k ih =>
    intro n w hk hn
    by_cases h : n < 10
    · rw [itoa_nn, Lib.decDigits_one h]
      have e1 := ten_at ⟨n, h⟩
      simp only at e1
      have E1 := Lib.hid e1
      clear e1 ih
      go_enter Tryd.func35, Tryd.ntmps35
      go_wp2_with fail
      go_ret
      refine ⟨?_, rfl⟩
      show Ending.returned (.string (ten.extract n (n + 1))) = _
      rw [E1.out]
    · rw [itoa_split n h]
      have h1 := fun w => ih (n / 10) w (by omega) (by omega)
      have h2 := fun w => ih (n % 10) w (by omega) (by omega)
      have l1 := itoa_length ((n / 10 : Nat) : Int) (by omega) (by omega)
      have l2 := itoa_length ((n % 10 : Nat) : Int) (by omega) (by omega)
      have e1 : ((n / 10 : Nat) : Int) = (n : Int) / 10 := by omega
      have e2 : ((n % 10 : Nat) : Int) = (n : Int) % 10 := by omega
      generalize Lib.itoa ((n / 10 : Nat) : Int) = ta at *
      generalize Lib.itoa ((n % 10 : Nat) : Int) = tb at *
      rw [e1] at h1
      rw [e2] at h2
      have H1 := Lib.hid h1
      have H2 := Lib.hid h2
      have m1 : ¬ 9223372036854775807 < ta.length + tb.length := by omega
      clear h1 h2 e1 e2 ih
      go_enter Tryd.func35, Tryd.ntmps35
      go_wp2_with fail
      refine (H1.out _).mono ?_
      rintro e w' ⟨rfl, rfl⟩
      go_wp2_with fail
      refine (H2.out _).mono ?_
      rintro e w' ⟨rfl, rfl⟩
      go_wp2_with fail
      go_ret
      refine ⟨?_, rfl⟩
      show Ending.returned (.string (B ta ++ B tb)) = _
      rw [B_append]
theorem digits_calls (n : Int) (h0 : 0 ≤ n) (h1 : n ≤ 9223372036854775807) (w : World) :
    Calls Tryd.prog 35 #[.int .i64 n] w fun e w' => e = .returned (.string (B (Lib.itoa n))) ∧ w = w' := by
  obtain ⟨k, rfl⟩ := Int.eq_ofNat_of_zero_le h0
  exact digits_any (k + 1) k w (by omega) (by omega)

set_option maxRecDepth 100000 in
set_option maxHeartbeats 2000000 in
theorem number_ref (s : ByteArray) (hs : s.size ≤ 9223372036854775800) (w : World) :
    Calls Tryd.prog 38 #[.string s] w fun e w' => e = .returned (.int .i64 (readN 0 s.data.toList)) ∧ w = w' := by
  go_enter Tryd.func38, Tryd.ntmps38
  go_wp2_with fail
  go_loop [3, 4] (fun a i => ∃ k n : Nat, k ≤ s.size ∧ n ≤ 9223372036854775807 ∧ i = .int .i64 k ∧ a = .int .i64 n ∧ Hid (readN n (s.data.toList.drop k) = readN 0 s.data.toList)) (fun _ i => s.size - (intOf i).toNat)
  case atStart => exact ⟨0, 0, Nat.zero_le _, by omega, rfl, rfl, rfl⟩
  case round =>
    obtain ⟨k, n, hk, hn, rfl, rfl, hR⟩ := hrel
    by_cases hlt : k < s.size
    · have hd : s.data.toList.drop k = s[k] :: s.data.toList.drop (k + 1) := by
        rw [List.drop_eq_getElem_cons (by rw [← Lib.size_eq]; exact hlt)]; rfl
      have hR2 := hR.out
      rw [hd] at hR2
      have HR := Lib.hid hR2
      clear hR hR2 hd
      by_cases h1 : (s[k].toNat : Int) < 48
      · go_wp2_with fail
        go_ret
        have e : readN 0 s.data.toList = 0 := by rw [← HR.out, readN, if_neg (by omega)]
        exact ⟨by rw [e]; rfl, rfl⟩
      · by_cases h2 : (57 : Int) < s[k].toNat
        · go_wp2_with fail
          go_ret
          have e : readN 0 s.data.toList = 0 := by rw [← HR.out, readN, if_neg (by omega)]
          exact ⟨by rw [e]; rfl, rfl⟩
        · by_cases h3 : (922337203685477579 : Int) < n
          · by_cases h4 : (9223372036854775807 - ((s[k].toNat : Int) - 48)) / 10 < n
            · go_wp2_with fail
              go_ret
              have e : readN 0 s.data.toList = 0 := by rw [← HR.out, readN, if_neg (by omega)]
              exact ⟨by rw [e]; rfl, rfl⟩
            · have e : readN (10 * n + (s[k].toNat - 48)) (s.data.toList.drop (k + 1)) = readN 0 s.data.toList := by rw [← HR.out, readN, if_pos (by omega)]
              have HE := Lib.hid e
              clear e HR
              go_wp2_with fail
              go_round
              case rel => exact ⟨k + 1, 10 * n + (s[k].toNat - 48), by omega, by omega, by go_num, by go_num, HE.out⟩
              case measure => simp [intOf]; omega
          · have e : readN (10 * n + (s[k].toNat - 48)) (s.data.toList.drop (k + 1)) = readN 0 s.data.toList := by rw [← HR.out, readN, if_pos (by omega)]
            have HE := Lib.hid e
            clear e HR
            go_wp2_with fail
            go_round
            case rel => exact ⟨k + 1, 10 * n + (s[k].toNat - 48), by omega, by omega, by go_num, by go_num, HE.out⟩
            case measure => simp [intOf]; omega
    · obtain rfl : k = s.size := by omega
      go_wp2_with fail
      go_ret
      have hR2 := hR.out
      rw [List.drop_of_length_le (by rw [← Lib.size_eq]; exact Nat.le_refl _)] at hR2
      exact ⟨by rw [← hR2]; rfl, rfl⟩
end Go.Proofs.YthjpcfohpbbacaaDoor
