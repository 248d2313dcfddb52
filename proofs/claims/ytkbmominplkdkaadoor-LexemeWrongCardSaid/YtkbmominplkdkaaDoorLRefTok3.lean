/-
  The reference's token: its contract.
-/
import Derived.Test.YtkbmominplkdkaaDoorLRefTok2
import Derived.Lib.QuietBelow
import Derived.BigQuiet
namespace Go.Proofs.YtkbmominplkdkaaDoor
open Go Go.RowKit Go.Sort

theorem pre_no {s x : Bytes} {a : Nat} (ha : a ≤ s.length) (h : ¬ a + x.length ≤ s.length) : x.isPrefixOf (s.drop a) = false := by
  have := Lib.hasPrefix_of_take (s.drop a) x
  unfold Lib.hasPrefix at this
  rw [← this, List.length_drop, decide_eq_false (by omega)]; rfl
theorem pre_is {s x : Bytes} {a : Nat} (h : a + x.length ≤ s.length) : (((B s).extract a (a + x.length)).toList == (B x).toList) = x.isPrefixOf (s.drop a) := by
  have := Lib.hasPrefix_of_take (s.drop a) x
  unfold Lib.hasPrefix at this
  rw [← this, List.length_drop, decide_eq_true (by omega), Lib.extract_eq, Lib.toList_data, Lib.toList_data, Bool.true_and, show a + x.length - a = x.length by omega]
theorem sg_at_ne (k : Nat) (h : k < 23) : sgL.getD k [] ≠ [] := by
  have hl : k < sgL.length := h
  rw [List.getD_eq_getElem?_getD, List.getElem?_eq_getElem hl]
  exact sg_ne _ (List.getElem_mem hl)

theorem sgs_len : ∀ x ∈ sgL, x.length ≤ 2 := by decide +kernel
theorem sg_at_len (k : Nat) (h : k < 23) : (sgL.getD k []).length ≤ 2 := by
  have hl : k < sgL.length := h
  rw [List.getD_eq_getElem?_getD, List.getElem?_eq_getElem hl]
  exact sgs_len _ (List.getElem_mem hl)

set_option maxRecDepth 100000 in
set_option maxHeartbeats 4000000 in
theorem refTok_other (s : Bytes) (a : Nat) (ha : a < s.length) (hs : s.length ≤ 281474976710656) (hl : lett s[a] = false) (hd : dig s[a] = false) (w : World) :
    Calls Tryd.prog 26 #[.string (B s), .int .i64 a] w fun e w' => e = .returned (tkV (tok (s.drop a)) a) ∧ Below w.heap.size w w' := by
  have hsz : (B s).size = s.length := B_size s
  have hb : a < (B s).size := by rw [hsz]; exact ha
  have e1 : lettI (((B s)[a]'hb).toNat : Int) = false := hl
  have e2 : digI (((B s)[a]'hb).toNat : Int) = false := hd
  have ht : tok (s.drop a) = if sign (s.drop a) ≠ [] then (4, sign (s.drop a)) else (0, []) := by
    rw [drop_at ha]; exact tok_other hl hd
  have HT := Lib.hid ht
  clear ht hl hd
  go_enter Tryd.func26, Tryd.ntmps26
  go_wp2_with fail
  refine (refLetter_calls _ _).mono ?_
  rintro e w1 ⟨rfl, rfl⟩
  go_wp2_with fail
  refine (refDigit_calls _ _).mono ?_
  rintro e w1 ⟨rfl, rfl⟩
  go_wp2_with fail
  clear e1 e2
  refine (refSigns_calls _).mono ?_
  rintro e w5 ⟨rfl, hb5, hc⟩
  have HB5 := Lib.hid (Below.trans ((Below.refl _ w).alloc (Nat.le_refl _) (.cells #[.int .i64 0, .string ⟨#[]⟩, .int .i64 0] 31)) (hb5.mono (by simp)))
  have HTK := Lib.hid (RTokAt.below (RTokAt.new w (.int .i64 0) (.string ⟨#[]⟩) (.int .i64 0)) hb5)
  have hc : ∀ k, k < 23 → w5.cell? ⟨w.heap.size + 1, k, none⟩ = some (.string (B (sgL.getD k []))) := by simpa using hc
  have hN : w.heap.size + 1 < w5.heap.size := World.block_lt_of_cell? _ _ (hc 0 (by decide))
  have HC := Lib.hid hc
  clear hc hb5
  go_wp2_with fail
  go_loopw [9] (fun i wr => ∃ k : Nat, k ≤ 23 ∧ i = .int .i64 k ∧ Hid (∀ j, j < k → (sgL.getD j []).isPrefixOf (s.drop a) = false) ∧ Hid (Below w5.heap.size w5 wr)) (fun i _ => 23 - (intOf i).toNat)
  case atStart => exact ⟨0, by omega, rfl, Lib.hid (fun j hj => by omega), Lib.hid (Below.refl _ _)⟩
  case round =>
    obtain ⟨k, hk, rfl, H, HBR⟩ := hrel
    by_cases hlt : k < 23
    · have hi := (HBR.out.cell (p := ⟨w.heap.size + 1, k, none⟩) hN).trans (HC.out k hlt)
      have HNE := Lib.hid (sg_at_ne k hlt)
      have HY := Lib.hid (fun h => sign_yes hlt H.out h)
      generalize hgx : sgL.getD k [] = x at *
      have hx2 : x.length ≤ 2 := by rw [← hgx]; exact sg_at_len k hlt
      have c0 : IntKind.i64.wrap ((a : Int) + (x.length : Int)) = (a : Int) + (x.length : Int) := IntWalk.i64_in _ (by omega)
      have HGX := Lib.hid hgx
      clear hgx
      by_cases hroom : a + x.length ≤ s.length
      · have hq : (((B s).extract a (a + x.length)).toList == x) = x.isPrefixOf (s.drop a) := by
          rw [← pre_is hroom, Lib.toList_data (B x)]
        have c1 : (a : Int) + (x.length : Int) ≤ (s.length : Int) := by omega
        have d1 : (0 : Int) ≤ (a : Int) := by omega
        have d2 : (a : Int) ≤ (a : Int) + (x.length : Int) := by omega
        have d3 : (0 : Int) ≤ (a : Int) + (x.length : Int) := by omega
        have d4 : ((a : Int) + (x.length : Int)).toNat = a + x.length := by omega
        by_cases hp : x.isPrefixOf (s.drop a) = true
        · rw [hp] at hq
          have hv : tok (s.drop a) = (4, x) := by rw [HT.out, HY.out hp, if_pos HNE.out]
          have HV := Lib.hid hv
          clear hv hp HY
          have k1 := fun d os => cell_regrown hi d os
          go_wp2_with fail
          refine wp_region_quiet_below (by kernel_rfl) (by kernel_rfl) ?_
          repeat (first | go_big_quiet_step (fail) | quiet_step (fail))
          refine wpQuiet_nil ?_
          intro _ hw'
          obtain ⟨⟨dq, osq⟩, hw''⟩ := hw'
          subst hw''
          have HBR := Lib.hid (HBR.out.trans ((below_regrown wr dq osq).mono HBR.out.size))
          have hi2 := k1 dq osq
          clear k1 hi
          generalize grow (redrawn wr dq) osq = wz at *
          have hT := HTK.out.below HBR.out
          obtain ⟨y0, y1, y2⟩ := hT.at_
          have yf := hT.free
          have hy := hT
          unfold RTokAt at hy
          clear hT hy
          go_wp2_with fail
          exact bodyPost_ret (v := .agg #[.int .i64 4, .string (B x), .int .i64 a]) (by simp [results, Tryd.results26, go_sem, y0, y1, y2]) rfl ⟨by rw [HV.out]; rfl, (((HB5.out.trans (HBR.out.mono (by have := HB5.out.size; omega))).setCell (p := ⟨w.heap.size, 0, none⟩) (Nat.le_refl _) _).setCell (p := ⟨w.heap.size, 1, none⟩) (Nat.le_refl _) _).setCell (p := ⟨w.heap.size, 2, none⟩) (Nat.le_refl _) _⟩
        · simp only [Bool.not_eq_true] at hp
          rw [hp] at hq
          have HP := Lib.hid hp
          clear hp HY
          have k1 := fun d os => cell_regrown hi d os
          go_wp2_with fail
          refine wp_region_quiet_below (by kernel_rfl) (by kernel_rfl) ?_
          repeat (first | go_big_quiet_step (fail) | quiet_step (fail))
          refine wpQuiet_nil ?_
          intro _ hw'
          obtain ⟨⟨dq, osq⟩, hw''⟩ := hw'
          subst hw''
          have HBR := Lib.hid (HBR.out.trans ((below_regrown wr dq osq).mono HBR.out.size))
          have hi2 := k1 dq osq
          clear k1 hi
          generalize grow (redrawn wr dq) osq = wz at *
          go_wp2_with fail
          go_roundw
          case rel =>
            refine ⟨k + 1, by omega, by go_num, Lib.hid (fun j hj => ?_), HBR⟩
            rcases Nat.lt_or_ge j k with h1 | h1
            · exact H.out j h1
            · obtain rfl : j = k := by omega
              rw [HGX.out]; exact HP.out
          case measure => simp [intOf]; omega
      · have HP := Lib.hid (pre_no (by omega : a ≤ s.length) hroom)
        obtain ⟨n, hn⟩ : ∃ n : Nat, n = a + x.length := ⟨_, rfl⟩
        have c2 : IntKind.i64.wrap ((a : Int) + (x.length : Int)) = (n : Int) := by rw [c0]; omega
        have c1 : ¬ (n : Int) ≤ (s.length : Int) := by omega
        have c3 : ¬ n ≤ s.length := by omega
        clear c0 hn hroom
        clear HY
        have k1 := fun d os => cell_regrown hi d os
        go_wp2_with fail
        refine wp_region_quiet_below (by kernel_rfl) (by kernel_rfl) ?_
        repeat (first | go_big_quiet_step (fail) | quiet_step (fail))
        refine wpQuiet_nil ?_
        intro _ hw'
        obtain ⟨⟨dq, osq⟩, hw''⟩ := hw'
        subst hw''
        have HBR := Lib.hid (HBR.out.trans ((below_regrown wr dq osq).mono HBR.out.size))
        have hi2 := k1 dq osq
        clear k1 hi
        generalize grow (redrawn wr dq) osq = wz at *
        go_wp2_with fail
        go_roundw
        case rel =>
          refine ⟨k + 1, by omega, by go_num, Lib.hid (fun j hj => ?_), HBR⟩
          rcases Nat.lt_or_ge j k with h1 | h1
          · exact H.out j h1
          · obtain rfl : j = k := by omega
            rw [HGX.out]; exact HP.out
        case measure => simp [intOf]; omega
    · obtain rfl : k = 23 := by omega
      have HV := Lib.hid (show tok (s.drop a) = (0, []) by rw [HT.out, sign_no H.out]; rfl)
      have hT := HTK.out.below HBR.out
      obtain ⟨y0, y1, y2⟩ := hT.at_
      have yf := hT.free
      have hy := hT
      unfold RTokAt at hy
      clear hT hy
      go_wp2_with fail
      exact bodyPost_ret (v := .agg #[.int .i64 0, .string ⟨#[]⟩, .int .i64 0]) (by simp [results, Tryd.results26, go_sem, y0, y1, y2]) rfl ⟨by rw [HV.out]; rfl, (((HB5.out.trans (HBR.out.mono (by have := HB5.out.size; omega))).setCell (p := ⟨w.heap.size, 0, none⟩) (Nat.le_refl _) _).setCell (p := ⟨w.heap.size, 1, none⟩) (Nat.le_refl _) _).setCell (p := ⟨w.heap.size, 2, none⟩) (Nat.le_refl _) _⟩
theorem refToken_calls (s : Bytes) (a : Nat) (ha : a < s.length) (hs : s.length ≤ 281474976710656) (w : World) :
    Calls Tryd.prog 26 #[.string (B s), .int .i64 a] w fun e w' => e = .returned (tkV (tok (s.drop a)) a) ∧ Below w.heap.size w w' := by
  by_cases hl : lett s[a] = true
  · exact refTok_letter s a ha hs hl w
  · simp only [Bool.not_eq_true] at hl
    by_cases hd : dig s[a] = true
    · exact refTok_digit s a ha hs hd w
    · simp only [Bool.not_eq_true] at hd
      exact refTok_other s a ha hs hl hd w
end Go.Proofs.YtkbmominplkdkaaDoor
