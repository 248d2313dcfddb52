/-
  rewindref02.Parse: its contract.
-/
import Derived.Test.YtlhifbckmknijaaGreatDoorNRef
import Derived.Outline
namespace Go.Proofs.YtlhifbckmknijaaGreatDoor.N2
open Go Go.RowKit Go.Shelf Go.Sort

theorem isNeg_pos (s : ByteArray) (h : 0 < s.size) : isNeg s.data.toList = ((s[0].toNat : Int) == 45) := by
  have hd : s.data.toList.drop 0 = s[0] :: s.data.toList.drop 1 := by
    rw [List.drop_eq_getElem_cons (by rw [← Lib.size_eq]; exact h)]; rfl
  rw [List.drop_zero] at hd
  rw [hd]
  rfl

set_option maxRecDepth 100000 in
set_option maxHeartbeats 4000000 in
theorem parse_ref (s : ByteArray) (hs : s.size ≤ 9223372036854775807) (w : World) :
    Calls Tryz.prog 130 #[.string s] w fun e w' => e = .returned (.tuple #[encN (numParse s.data.toList), encE 7 (numParse s.data.toList)]) ∧ w = w' := by
  have hz : ∀ h : 0 < s.size, isNeg s.data.toList = ((s[0].toNat : Int) == 45) := isNeg_pos s
  have hrp : rp (isNeg s.data.toList) 0 0 s.data.toList = refV s.data.toList := rfl
  obtain ⟨neg, hneg⟩ : ∃ b, isNeg s.data.toList = b := ⟨_, rfl⟩
  rw [hneg] at hz hrp
  have HZ := Lib.hid hz
  have HRP := Lib.hid hrp
  clear hz hneg hrp
  go_enter Tryz.func130, Tryz.ntmps130
  go_wp2_with fail
  go_loop [4, 5] (fun a i => ∃ (k : Nat) (n : Int), k ≤ s.size ∧ okI n ∧ i = .int .i64 k ∧ a = .int .i64 n ∧ Hid (rp neg k n (s.data.toList.drop k) = refV s.data.toList)) (fun _ i => s.size - (intOf i).toNat)
  case atStart => exact ⟨0, 0, Nat.zero_le _, by unfold okI; omega, rfl, rfl, HRP⟩
  case round =>
    obtain ⟨k, n, hk, hok, rfl, rfl, hR⟩ := hrel
    clear HRP
    by_cases hlt : k < s.size
    · have hd : s.data.toList.drop k = s[k] :: s.data.toList.drop (k + 1) := by
        rw [List.drop_eq_getElem_cons (by rw [← Lib.size_eq]; exact hlt)]; rfl
      have hR2 := hR.out
      rw [hd, rp] at hR2
      have HR := Lib.hid hR2
      have hz := HZ.out (by omega)
      clear hR hR2 hd HZ
      have h0 : (0 : Int) < s.size := by omega
      by_cases hk0 : k = 0
      · subst hk0
        cases neg with
        | true =>
          have e : rp true 1 n (s.data.toList.drop 1) = refV s.data.toList := by rw [← HR.out, if_pos ⟨rfl, rfl⟩]
          have HE := Lib.hid e
          have hz' := hz.symm
          clear e HR hz
          go_wp2_with fail
          go_round
          case rel => exact ⟨1, n, by omega, hok, by go_num, by go_num, HE.out⟩
          case measure => simp [intOf]; omega
        | false =>
          have hz' := hz.symm
          clear hz
          by_cases h1 : (s[0].toNat : Int) < 48
          · have e : numParse s.data.toList = none := ref_none (by rw [← HR.out, if_neg (by simp), if_neg (by omega)])
            have HE := Lib.hid e
            clear HR e
            go_wp2_with fail
            go_ret2
            exact ⟨by rw [HE.out]; rfl, rfl⟩
          · by_cases h2 : (57 : Int) < s[0].toNat
            · have e : numParse s.data.toList = none := ref_none (by rw [← HR.out, if_neg (by simp), if_neg (by omega)])
              have HE := Lib.hid e
              clear HR e
              go_wp2_with fail
              go_ret2
              exact ⟨by rw [HE.out]; rfl, rfl⟩
            · have e : rp false 1 (wrap64 (wrap64 (10 * n) + ((s[0].toNat : Int) - 48))) (s.data.toList.drop 1) = refV s.data.toList := by rw [← HR.out, if_neg (by simp), if_pos (by omega), if_neg (by decide)]
              have HE := Lib.hid e
              clear e HR
              go_wp2_with fail
              go_round
              case rel => exact ⟨1, _, by omega, wrap64_ok _, by go_num, rfl, HE.out⟩
              case measure => simp [intOf]; omega
      · have hki : ((k : Int) == 0) = false := by rw [beq_eq_false_iff_ne]; omega
        by_cases h1 : (s[k].toNat : Int) < 48
        · have e : numParse s.data.toList = none := ref_none (by rw [← HR.out, if_neg (by omega), if_neg (by omega)])
          have HE := Lib.hid e
          clear HR e hz hk0
          go_wp2_with fail
          go_ret2
          exact ⟨by rw [HE.out]; rfl, rfl⟩
        · by_cases h2 : (57 : Int) < s[k].toNat
          · have e : numParse s.data.toList = none := ref_none (by rw [← HR.out, if_neg (by omega), if_neg (by omega)])
            have HE := Lib.hid e
            clear HR e hz hk0
            go_wp2_with fail
            go_ret2
            exact ⟨by rw [HE.out]; rfl, rfl⟩
          · by_cases h3 : (20 : Int) < k
            · have e : numParse s.data.toList = none := ref_none (by rw [← HR.out, if_neg (by omega), if_neg (by omega)])
              have HE := Lib.hid e
              clear HR e hz hk0
              go_wp2_with fail
              go_ret2
              exact ⟨by rw [HE.out]; rfl, rfl⟩
            · cases neg with
              | true =>
                have e : rp true (k + 1) (wrap64 (wrap64 (10 * n) - ((s[k].toNat : Int) - 48))) (s.data.toList.drop (k + 1)) = refV s.data.toList := by rw [← HR.out, if_neg (by omega), if_pos (by omega), if_pos rfl]
                have HE := Lib.hid e
                have hz' := hz.symm
                clear e HR hk0 hz
                go_wp2_with fail
                go_round
                case rel => exact ⟨k + 1, _, by omega, wrap64_ok _, by go_num, rfl, HE.out⟩
                case measure => simp [intOf]; omega
              | false =>
                have e : rp false (k + 1) (wrap64 (wrap64 (10 * n) + ((s[k].toNat : Int) - 48))) (s.data.toList.drop (k + 1)) = refV s.data.toList := by rw [← HR.out, if_neg (by omega), if_pos (by omega), if_neg (by decide)]
                have HE := Lib.hid e
                have hz' := hz.symm
                clear e HR hk0 hz
                go_wp2_with fail
                go_round
                case rel => exact ⟨k + 1, _, by omega, wrap64_ok _, by go_num, rfl, HE.out⟩
                case measure => simp [intOf]; omega
    · obtain rfl : k = s.size := by omega
      have hR2 := hR.out
      rw [List.drop_of_length_le (by rw [← Lib.size_eq]; exact Nat.le_refl _), rp] at hR2
      have C := fun W => text_ref n hok W
      have HC := Lib.hid C
      clear hR C HZ hok
      by_cases hx : Lib.itoa n = s.data.toList
      · have HE := Lib.hid (ref_yes hR2.symm hx)
        have htb : (Lib.itoa n == s.toList) = true := by rw [Lib.toList_data]; exact beq_iff_eq.2 hx
        generalize Lib.itoa n = tx at *
        clear hx hR2
        have HTB := Lib.hid htb
        clear htb
        go_wp2_with fail
        refine (HC.out _).mono ?_
        rintro e w' ⟨rfl, rfl⟩
        have htb := HTB.out
        go_wp2_with fail
        go_ret2
        exact ⟨by rw [HE.out]; rfl, rfl⟩
      · have HE := Lib.hid (ref_no hR2.symm hx)
        have htb : (Lib.itoa n == s.toList) = false := by rw [Lib.toList_data]; exact beq_eq_false_iff_ne.2 hx
        generalize Lib.itoa n = tx at *
        clear hx hR2
        have HTB := Lib.hid htb
        clear htb
        go_wp2_with fail
        refine (HC.out _).mono ?_
        rintro e w' ⟨rfl, rfl⟩
        have htb := HTB.out
        go_wp2_with fail
        go_ret2
        exact ⟨by rw [HE.out]; rfl, rfl⟩
end Go.Proofs.YtlhifbckmknijaaGreatDoor.N2
