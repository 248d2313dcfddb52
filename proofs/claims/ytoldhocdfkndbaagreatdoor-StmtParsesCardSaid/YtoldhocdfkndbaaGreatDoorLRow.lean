/-
  firstRow, firstSign, name, number: contracts.
-/
import Derived.Test.YtoldhocdfkndbaaGreatDoorLBase
import Derived.Test.YtoldhocdfkndbaaGreatDoorShelf
import Derived.Lib.Strings
import Derived.Lib.AppendIntMem
namespace Go.Proofs.YtoldhocdfkndbaaGreatDoor.L4
open Go Go.RowKit Go.Sort

theorem ext_take (s : Bytes) (k : Nat) : (B s).extract 0 k = B (s.take k) := by rw [Lib.extract_eq]; simp
theorem ext_drop (s : Bytes) (a : Nat) : (B s).extract a (B s).size = B (s.drop a) := by
  rw [Lib.extract_eq]
  have : (B s).size = s.length := by simp [ByteArray.size]
  rw [this]
  show (⟨((s.drop a).take (s.length - a)).toArray⟩ : ByteArray) = _
  rw [List.take_of_length_le (by simp)]
theorem B_size (s : Bytes) : (B s).size = s.length := by simp [ByteArray.size]
theorem take_all (p : UInt8 → Bool) (l : Bytes) (k : Nat) (h : k < l.length) : (l.take (k + 1)).all p = ((l.take k).all p && p (l[k])) := by
  rw [List.take_succ_eq_append_getElem h]; simp only [List.all_append, List.all_cons, List.all_nil, Bool.and_true]

set_option maxHeartbeats 1000000 in
theorem firstRow_calls (s : Bytes) (hs : s.length ≤ 9223372036854775807) (w : World) :
    Calls Tryz.prog 134 #[.string (B s)] w fun e w' => e = .returned (.string (B (row s))) ∧ w = w' := by
  go_enter Tryz.func134, Tryz.ntmps134
  go_wp2_with fail
  go_loop [3] (fun i => ∃ k : Nat, k ≤ s.length ∧ i = .int .i64 k ∧ (s.take k).all okC = true) (fun i => s.length - (intOf i).toNat)
  case atStart => exact ⟨0, by omega, rfl, rfl⟩
  case round =>
    obtain ⟨k, hk', rfl, hall⟩ := hrel
    have H := Lib.hid hall
    clear hall
    by_cases hlt : k < s.length
    · have hb : k < (B s).size := by rw [B_size]; exact hlt
      have hge : s[k]? = some ((B s)[k]'hb) := by rw [List.getElem?_eq_getElem hlt]; rfl
      have hsn : (s.take (k + 1)).all okC = ((s.take k).all okC && okC ((B s)[k]'hb)) := by rw [take_all okC s k hlt]; rfl
      have HS := Lib.hid hsn
      have HE := Lib.hid hge
      clear hsn hge
      by_cases e1 : lettI (((B s)[k]'hb).toNat : Int) = true
      · go_wp2_with fail
        refine (letter_calls _ _).mono ?_
        rintro e w1 ⟨rfl, rfl⟩
        go_wp2_with fail
        go_round
        case rel => exact ⟨k + 1, by omega, by go_num, by rw [HS.out, H.out]; simp [okC, lett, e1]⟩
        case measure => simp [intOf]; omega
      · simp only [Bool.not_eq_true] at e1
        by_cases e2 : digI (((B s)[k]'hb).toNat : Int) = true
        · go_wp2_with fail
          refine (letter_calls _ _).mono ?_
          rintro e w1 ⟨rfl, rfl⟩
          go_wp2_with fail
          refine (digit_calls _ _).mono ?_
          rintro e w1 ⟨rfl, rfl⟩
          go_wp2_with fail
          go_round
          case rel => exact ⟨k + 1, by omega, by go_num, by rw [HS.out, H.out]; simp [okC, dig, e2]⟩
          case measure => simp [intOf]; omega
        · simp only [Bool.not_eq_true] at e2
          by_cases e3 : (B s)[k]'hb = 95
          · have e4 : ((((B s)[k]'hb).toNat : Int) == 95) = true := by rw [e3]; rfl
            have E3 := Lib.hid e3
            clear e3
            go_wp2_with fail
            refine (letter_calls _ _).mono ?_
            rintro e w1 ⟨rfl, rfl⟩
            go_wp2_with fail
            refine (digit_calls _ _).mono ?_
            rintro e w1 ⟨rfl, rfl⟩
            go_wp2_with fail
            go_round
            case rel => exact ⟨k + 1, by omega, by go_num, by rw [HS.out, H.out, E3.out]; rfl⟩
            case measure => simp [intOf]; omega
          · have e4 : ((((B s)[k]'hb).toNat : Int) == 95) = false := by
              rw [beq_eq_false_iff_ne]; intro h; exact e3 (UInt8.toNat_inj.1 (by simpa using (show ((B s)[k]'hb).toNat = 95 by omega)))
            have e5 : row s = s.take k := tw_take okC s k hk' H.out (.inr ⟨_, HE.out, by simp [okC, lett, dig, e1, e2, e3]⟩)
            have E5 := Lib.hid e5
            clear e5 e3
            go_wp2_with fail
            refine (letter_calls _ _).mono ?_
            rintro e w1 ⟨rfl, rfl⟩
            go_wp2_with fail
            refine (digit_calls _ _).mono ?_
            rintro e w1 ⟨rfl, rfl⟩
            go_wp2_with fail
            go_ret
            exact ⟨by rw [E5.out, ← ext_take]; rfl, rfl⟩
    · obtain rfl : k = s.length := by omega
      have e5 : row s = s.take s.length := tw_take okC s s.length hk' H.out (.inl rfl)
      have E5 := Lib.hid e5
      clear e5
      go_wp2_with fail
      go_ret
      exact ⟨by rw [E5.out, ← ext_take]; rfl, rfl⟩

theorem nameOf_calls (r : Bytes) (hs : r.length ≤ 9223372036854775807) (w : World) :
    Calls Tryz.prog 137 #[.string (B r)] w fun e w' => e = .returned (.bool (nameB r)) ∧ w = w' := by
  cases r with
  | nil =>
    go_enter Tryz.func137, Tryz.ntmps137
    go_wp2_with fail
    go_ret
    exact ⟨rfl, rfl⟩
  | cons c t =>
    have C1 := letter_calls (c.toNat : Int)
    by_cases hl : lettI (c.toNat : Int) = true
    · by_cases h16 : t.length + 1 ≤ 16
      · rw [hl] at C1
        have C1 := Lib.hid C1
        go_enter Tryz.func137, Tryz.ntmps137
        go_wp2_with fail
        refine (C1.out _).mono ?_
        rintro e w1 ⟨rfl, rfl⟩
        go_wp2_with fail
        go_ret
        exact ⟨by simp [nameB, lett, hl, h16]; omega, rfl⟩
      · have h16' : 16 < t.length + 1 := by omega
        rw [hl] at C1
        have C1 := Lib.hid C1
        go_enter Tryz.func137, Tryz.ntmps137
        go_wp2_with fail
        refine (C1.out _).mono ?_
        rintro e w1 ⟨rfl, rfl⟩
        go_wp2_with fail
        go_ret
        exact ⟨by simp [nameB, h16]; omega, rfl⟩
    · simp only [Bool.not_eq_true] at hl
      rw [hl] at C1
      have C1 := Lib.hid C1
      go_enter Tryz.func137, Tryz.ntmps137
      go_wp2_with fail
      refine (C1.out _).mono ?_
      rintro e w1 ⟨rfl, rfl⟩
      go_wp2_with fail
      go_ret
      exact ⟨by simp [nameB, lett, hl], rfl⟩

theorem number_calls (r : Bytes) (hs : r.length ≤ 281474976710656) (w : World) (hG : Glob w) :
    Calls Tryz.prog 138 #[.string (B r)] w fun e w' => e = .returned (.bool (numB r)) ∧ Below w.heap.size w w' := by
  have hsz : (B r).size ≤ 281474976710656 := by rw [B_size]; exact hs
  have hd : (B r).data.toList = r := rfl
  obtain ⟨ts, ps, hsyn⟩ := hG.syn
  obtain ⟨tr, pr, hran⟩ := hG.ran
  cases h : Lib.parseIntB 64 r with
  | ok v =>
    have hb := Lib.parseIntB_bounds h
    have C1 := Lib.hid (Tryz.strconv_ParseInt_10_at64_ok (B r) (by omega) v (by rw [hd]; exact h) w)
    have C2 : ∀ W, Glob W → _ := fun W hW => Tryz.strconv_FormatInt_10 v (by simpa using hb.1) (by have := hb.2; simp at this; omega) W hW.tab
    have C2 := Lib.hid C2
    have hn : numB r = (Lib.itoa v == r) := by unfold numB; rw [h]
    have HN := Lib.hid hn
    have HG := Lib.hid hG
    clear hb h hsyn hran hG hn
    go_enter Tryz.func138, Tryz.ntmps138
    go_wp2_with fail
    refine C1.out.mono ?_
    rintro e w1 ⟨rfl, hw⟩
    have hb1 : Below w.heap.size w w1 := by
      rcases hw with rfl | ⟨t, rfl⟩
      · exact Below.refl _ _
      · exact Lib.bytesWorld_below _ _ _
    have HB := Lib.hid hb1
    clear hw hb1
    go_wp2_with fail
    refine (C2.out _ (HG.out.below HB.out)).mono ?_
    rintro e w2 ⟨rfl, k, os, rfl⟩
    have HB2 := Lib.hid (after HB.out (Lib.below_grow w1.heap.size w1 (Nat.le_refl _) k os))
    generalize grow (w1.drewN k) os = w2 at *
    by_cases hq : (Lib.itoa v == r) = true
    · have hq' : ((⟨(Lib.itoa v).toArray⟩ : ByteArray).toList == (B r).toList) = true := by rw [Lib.toList_data, Lib.toList_data]; exact hq
      go_wp2_with fail
      go_ret
      exact ⟨by rw [HN.out, hq]; rfl, HB2.out⟩
    · simp only [Bool.not_eq_true] at hq
      have hq' : ((⟨(Lib.itoa v).toArray⟩ : ByteArray).toList == (B r).toList) = false := by rw [Lib.toList_data, Lib.toList_data]; exact hq
      go_wp2_with fail
      go_ret
      exact ⟨by rw [HN.out, hq]; rfl, HB2.out⟩
  | _ =>
    first
    | have C1 := Lib.hid (Any.strconv_ParseInt_10_at64_syntax Tryz.laysC174 (B r) hsz (by rw [hd]; exact h) _ w hsyn (.inr ⟨_, _, rfl⟩))
    | have C1 := Lib.hid (Any.strconv_ParseInt_10_at64_range Tryz.laysC174 (B r) hsz (by rw [hd]; exact h) _ w hran (.inr ⟨_, _, rfl⟩))
    have hn : numB r = false := by unfold numB; rw [h]
    have HN := Lib.hid hn
    clear h hsyn hran hG hn
    go_enter Tryz.func138, Tryz.ntmps138
    go_wp2_with fail
    refine C1.out.mono ?_
    rintro e w1 ⟨N, rfl, hN, hc, hb1⟩
    have HB := Lib.hid hb1
    clear hN hc hb1
    go_wp2_with fail
    go_ret
    exact ⟨by rw [HN.out]; rfl, HB.out⟩
end Go.Proofs.YtoldhocdfkndbaaGreatDoor.L4
