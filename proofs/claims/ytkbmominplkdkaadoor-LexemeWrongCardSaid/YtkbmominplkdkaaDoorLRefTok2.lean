/-
  The reference's token at a digit: its contract.
-/
import Derived.Test.YtkbmominplkdkaaDoorLRefTok1
namespace Go.Proofs.YtkbmominplkdkaaDoor
open Go Go.RowKit Go.Sort

theorem mem_tw (p : UInt8 → Bool) (l : Bytes) : ∀ n (h : n < l.length), (l.take (n + 1)).all p = true → l[n] ∈ l.takeWhile p := by
  induction l with
  | nil => intro n h; simp at h
  | cons c l ih =>
    intro n h ha
    rw [List.take_succ_cons, List.all_cons, Bool.and_eq_true] at ha
    rw [List.takeWhile_cons, if_pos ha.1]
    cases n with
    | zero => simp
    | succ n => rw [List.getElem_cons_succ]; exact List.mem_cons_of_mem _ (ih n (by simpa using h) ha.2)
theorem all_mono {p q : UInt8 → Bool} (h : ∀ c, p c = true → q c = true) {l : Bytes} (hl : l.all p = true) : l.all q = true := by
  rw [List.all_eq_true] at hl ⊢
  exact fun x hx => h x (hl x hx)
theorem tok_spoilt_at {s : Bytes} {a k : Nat} (ha : a < s.length) (hd : dig s[a] = true) (h1 : a ≤ k) (h2 : k < s.length) (h3 : ((s.drop a).take (k - a)).all dig = true) (h4 : okC s[k] = true) (h5 : dig s[k] = false) : tok (s.drop a) = (0, []) := by
  have hm : s[k] ∈ row (s.drop a) := by
    have := mem_tw okC (s.drop a) (k - a) (by rw [List.length_drop]; omega) (by
      rw [show k - a + 1 = k + 1 - a by omega, drop_all h1 h2, all_mono (fun _ => okC_dig) h3, h4]; rfl)
    rw [List.getElem_drop] at this
    show s[k] ∈ (s.drop a).takeWhile okC
    simpa [show a + (k - a) = k by omega] using this
  rw [drop_at ha] at hm ⊢
  exact tok_spoilt hd hm h5
theorem row_clean {s : Bytes} {a k : Nat} (h1 : a ≤ k) (h2 : k ≤ s.length) (h3 : ((s.drop a).take (k - a)).all dig = true) (h4 : k = s.length ∨ ∃ c, s[k]? = some c ∧ okC c = false) : row (s.drop a) = (s.drop a).takeWhile dig := by
  have h5 : k - a = (s.drop a).length ∨ ∃ c, (s.drop a)[k - a]? = some c ∧ okC c = false := by
    rcases h4 with h4 | ⟨c, h4, h5⟩
    · left; rw [List.length_drop]; omega
    · right; exact ⟨c, by rw [List.getElem?_drop, show a + (k - a) = k by omega]; exact h4, h5⟩
  have h6 : ∀ c, okC c = false → dig c = false := by
    intro c h
    rw [← Bool.not_eq_true]
    intro h7
    rw [okC_dig h7] at h; cases h
  unfold row
  rw [tw_take okC (s.drop a) (k - a) (by rw [List.length_drop]; omega) (all_mono (fun _ => okC_dig) h3) h5, tw_take dig (s.drop a) (k - a) (by rw [List.length_drop]; omega) h3 (h5.imp id fun ⟨c, h7, h8⟩ => ⟨c, h7, h6 c h8⟩)]
theorem digs_cons {s : Bytes} {a : Nat} (ha : a < s.length) (hd : dig s[a] = true) : ∃ c0 tl, (s.drop a).takeWhile dig = c0 :: tl ∧ s[a] = c0 :=
  ⟨s[a], _, by rw [drop_at ha, List.takeWhile_cons, if_pos hd], rfl⟩
theorem digs_len (s : Bytes) (a : Nat) : ((s.drop a).takeWhile dig).length ≤ s.length := by
  have := (List.takeWhile_prefix (l := s.drop a) dig).length_le
  rw [List.length_drop] at this; omega
theorem tok_clean {s : Bytes} {a : Nat} (ha : a < s.length) (hd : dig s[a] = true) (hr : row (s.drop a) = (s.drop a).takeWhile dig) :
    tok (s.drop a) = if (1 < ((s.drop a).takeWhile dig).length ∧ s[a] = 48) ∨ great ((s.drop a).takeWhile dig) = true then (0, []) else (2, (s.drop a).takeWhile dig) := by
  rw [← hr]
  rw [drop_at ha] at hr ⊢
  refine tok_digits hd fun d h => ?_
  rw [hr] at h
  rw [← dig_iff]
  exact List.all_eq_true.1 (List.all_takeWhile (p := dig) (l := s[a] :: s.drop (a + 1))) d h

set_option maxRecDepth 100000 in
set_option maxHeartbeats 4000000 in
theorem refTok_digit (s : Bytes) (a : Nat) (ha : a < s.length) (hs : s.length ≤ 281474976710656) (hd : dig s[a] = true) (w : World) :
    Calls Tryd.prog 26 #[.string (B s), .int .i64 a] w fun e w' => e = .returned (tkV (tok (s.drop a)) a) ∧ Below w.heap.size w w' := by
  have hsz : (B s).size = s.length := B_size s
  have hb : a < (B s).size := by rw [hsz]; exact ha
  have hl : lett s[a] = false := by
    rw [← Bool.not_eq_true]; intro h; rw [lett_dig h] at hd; cases hd
  have e1 : lettI (((B s)[a]'hb).toNat : Int) = false := hl
  have e2 : digI (((B s)[a]'hb).toNat : Int) = true := hd
  clear hl
  go_enter Tryd.func26, Tryd.ntmps26
  go_wp2_with fail
  refine (refLetter_calls _ _).mono ?_
  rintro e w1 ⟨rfl, rfl⟩
  go_wp2_with fail
  refine (refDigit_calls _ _).mono ?_
  rintro e w1 ⟨rfl, rfl⟩
  go_wp2_with fail
  clear e1 e2
  go_loop [5] (fun i => ∃ k : Nat, a ≤ k ∧ k ≤ s.length ∧ i = .int .i64 k ∧ Hid (((s.drop a).take (k - a)).all dig = true)) (fun i => s.length - (intOf i).toNat)
  case atStart => exact ⟨a, by omega, by omega, rfl, Lib.hid (by simp)⟩
  case round =>
    obtain ⟨k, hk1, hk2, rfl, H⟩ := hrel
    have FIN := Lib.hid (fun (h : k = s.length ∨ ∃ c, s[k]? = some c ∧ dig c = false) => ext_row (p := dig) hk1 hk2 H.out h)
    by_cases hlt : k < s.length
    · have hb : k < (B s).size := by rw [hsz]; exact hlt
      by_cases e2 : digI (((B s)[k]'hb).toNat : Int) = true
      · have HN := Lib.hid (show ((s.drop a).take (k + 1 - a)).all dig = true by rw [drop_all (p := dig) hk1 hlt, H.out, show dig s[k] = true from e2]; rfl)
        clear H FIN
        go_wp2_with fail
        refine (refDigit_calls _ _).mono ?_
        rintro e w1 ⟨rfl, rfl⟩
        go_wp2_with fail
        go_round
        case rel => exact ⟨k + 1, by omega, by omega, by go_num, HN⟩
        case measure => simp [intOf]; omega
      · simp only [Bool.not_eq_true] at e2
        have hx := FIN.out (.inr ⟨s[k], List.getElem?_eq_getElem hlt, e2⟩)
        clear FIN
        by_cases e1 : lettI (((B s)[k]'hb).toNat : Int) = true
        · have HV := Lib.hid (tok_spoilt_at ha hd hk1 hlt H.out (okC_lett (show lett s[k] = true from e1)) e2)
          generalize (s.drop a).takeWhile dig = t at hx
          clear H
          go_wp2_with fail
          refine (refDigit_calls _ _).mono ?_
          rintro e w1 ⟨rfl, rfl⟩
          go_wp2_with fail
          refine (refLetter_calls _ _).mono ?_
          rintro e w1 ⟨rfl, rfl⟩
          go_wp2_with fail
          exact bodyPost_ret (v := .agg #[.int .i64 0, .string ⟨#[]⟩, .int .i64 0]) (by simp [results, Tryd.results26, go_sem]) rfl ⟨by rw [HV.out]; rfl, (Below.refl _ w).alloc (Nat.le_refl _) _⟩
        · simp only [Bool.not_eq_true] at e1
          cases e4 : ((((B s)[k]'hb).toNat : Int) == 95) with
          | true =>
            have HV := Lib.hid (tok_spoilt_at ha hd hk1 hlt H.out (by unfold okC; rw [show s[k] = 95 from u8_is (x := (B s)[k]'hb) (n := 95) (by decide) e4]; rfl) e2)
            generalize (s.drop a).takeWhile dig = t at hx
            clear H
            go_wp2_with fail
            refine (refDigit_calls _ _).mono ?_
            rintro e w1 ⟨rfl, rfl⟩
            go_wp2_with fail
            refine (refLetter_calls _ _).mono ?_
            rintro e w1 ⟨rfl, rfl⟩
            go_wp2_with fail
            exact bodyPost_ret (v := .agg #[.int .i64 0, .string ⟨#[]⟩, .int .i64 0]) (by simp [results, Tryd.results26, go_sem]) rfl ⟨by rw [HV.out]; rfl, (Below.refl _ w).alloc (Nat.le_refl _) _⟩
          | false =>
            have hne : s[k] ≠ 95 := u8_not (x := (B s)[k]'hb) (n := 95) (by decide) e4
            have hrow := row_clean hk1 hk2 H.out (.inr ⟨s[k], List.getElem?_eq_getElem hlt, by unfold okC; rw [show lett s[k] = false from e1, show dig s[k] = false from e2]; simpa using hne⟩)
            clear hne
            obtain ⟨c0, tl, hct, hc0⟩ := digs_cons ha hd
            have ht := tok_clean ha hd hrow
            rw [hct] at hx ht
            rw [hc0] at ht
            have HT := Lib.hid ht
            have C5 := Lib.hid (fun W => great_calls (c0 :: tl) (Nat.le_trans (hct ▸ digs_len s a) (by omega)) W)
            clear ht hct hrow H
            by_cases hz : 1 < (c0 :: tl).length
            · have d1 : (1 : Int) < (tl.length : Int) + 1 := by simp only [List.length_cons] at hz; omega
              have hb0 : 0 < (B (c0 :: tl)).size := by rw [B_size]; simp
              cases e5 : ((((B (c0 :: tl))[0]'hb0).toNat : Int) == 48) with
              | true =>
                have HV := Lib.hid (show tok (s.drop a) = (0, []) by rw [HT.out, if_pos (.inl ⟨hz, u8_is (x := (B (c0 :: tl))[0]'hb0) (n := 48) (by decide) e5⟩)])
                clear HT hz
                go_wp2_with fail
                refine (refDigit_calls _ _).mono ?_
                rintro e w1 ⟨rfl, rfl⟩
                go_wp2_with fail
                refine (refLetter_calls _ _).mono ?_
                rintro e w1 ⟨rfl, rfl⟩
                go_wp2_with fail
                exact bodyPost_ret (v := .agg #[.int .i64 0, .string ⟨#[]⟩, .int .i64 0]) (by simp [results, Tryd.results26, go_sem]) rfl ⟨by rw [HV.out]; rfl, (Below.refl _ w).alloc (Nat.le_refl _) _⟩
              | false =>
                have hzz : 1 < (c0 :: tl).length → ¬ c0 = 48 := fun _ => u8_not (x := (B (c0 :: tl))[0]'hb0) (n := 48) (by decide) e5
                clear hz
                go_wp2_with fail
                refine (refDigit_calls _ _).mono ?_
                rintro e w1 ⟨rfl, rfl⟩
                go_wp2_with fail
                refine (refLetter_calls _ _).mono ?_
                rintro e w1 ⟨rfl, rfl⟩
                go_wp2_with fail
                refine (C5.out _).mono ?_
                rintro e w1 ⟨rfl, rfl⟩
                by_cases hg : great (c0 :: tl) = true
                · have HV := Lib.hid (show tok (s.drop a) = (0, []) by rw [HT.out, if_pos (.inr hg)])
                  rw [hg]
                  clear HT hg
                  go_wp2_with fail
                  exact bodyPost_ret (v := .agg #[.int .i64 0, .string ⟨#[]⟩, .int .i64 0]) (by simp [results, Tryd.results26, go_sem]) rfl ⟨by rw [HV.out]; rfl, (Below.refl _ w).alloc (Nat.le_refl _) _⟩
                · have HV := Lib.hid (show tok (s.drop a) = (2, c0 :: tl) by rw [HT.out, if_neg (by rintro (⟨h1, h2⟩ | h1); exact hzz h1 h2; exact hg h1)])
                  simp only [Bool.not_eq_true] at hg
                  rw [hg]
                  clear HT hg
                  go_wp2_with fail
                  exact bodyPost_ret (v := .agg #[.int .i64 2, .string (B (c0 :: tl)), .int .i64 a]) (by simp [results, Tryd.results26, go_sem]) rfl ⟨by rw [HV.out]; rfl, (Below.refl _ w).alloc (Nat.le_refl _) _⟩
            · have d1 : ¬ (1 : Int) < (tl.length : Int) + 1 := by simp only [List.length_cons] at hz; omega
              have hzz : 1 < (c0 :: tl).length → ¬ c0 = 48 := fun h => absurd h hz
              clear hz
              go_wp2_with fail
              refine (refDigit_calls _ _).mono ?_
              rintro e w1 ⟨rfl, rfl⟩
              go_wp2_with fail
              refine (refLetter_calls _ _).mono ?_
              rintro e w1 ⟨rfl, rfl⟩
              go_wp2_with fail
              refine (C5.out _).mono ?_
              rintro e w1 ⟨rfl, rfl⟩
              by_cases hg : great (c0 :: tl) = true
              · have HV := Lib.hid (show tok (s.drop a) = (0, []) by rw [HT.out, if_pos (.inr hg)])
                rw [hg]
                clear HT hg
                go_wp2_with fail
                exact bodyPost_ret (v := .agg #[.int .i64 0, .string ⟨#[]⟩, .int .i64 0]) (by simp [results, Tryd.results26, go_sem]) rfl ⟨by rw [HV.out]; rfl, (Below.refl _ w).alloc (Nat.le_refl _) _⟩
              · have HV := Lib.hid (show tok (s.drop a) = (2, c0 :: tl) by rw [HT.out, if_neg (by rintro (⟨h1, h2⟩ | h1); exact hzz h1 h2; exact hg h1)])
                simp only [Bool.not_eq_true] at hg
                rw [hg]
                clear HT hg
                go_wp2_with fail
                exact bodyPost_ret (v := .agg #[.int .i64 2, .string (B (c0 :: tl)), .int .i64 a]) (by simp [results, Tryd.results26, go_sem]) rfl ⟨by rw [HV.out]; rfl, (Below.refl _ w).alloc (Nat.le_refl _) _⟩
    · obtain rfl : k = s.length := by omega
      have hx := FIN.out (.inl rfl)
      clear FIN
      have hrow := row_clean hk1 hk2 H.out (.inl rfl)
      obtain ⟨c0, tl, hct, hc0⟩ := digs_cons ha hd
      have ht := tok_clean ha hd hrow
      rw [hct] at hx ht
      rw [hc0] at ht
      have HT := Lib.hid ht
      have C5 := Lib.hid (fun W => great_calls (c0 :: tl) (Nat.le_trans (hct ▸ digs_len s a) (by omega)) W)
      clear ht hct hrow H
      by_cases hz : 1 < (c0 :: tl).length
      · have d1 : (1 : Int) < (tl.length : Int) + 1 := by simp only [List.length_cons] at hz; omega
        have hb0 : 0 < (B (c0 :: tl)).size := by rw [B_size]; simp
        cases e5 : ((((B (c0 :: tl))[0]'hb0).toNat : Int) == 48) with
        | true =>
          have HV := Lib.hid (show tok (s.drop a) = (0, []) by rw [HT.out, if_pos (.inl ⟨hz, u8_is (x := (B (c0 :: tl))[0]'hb0) (n := 48) (by decide) e5⟩)])
          clear HT hz
          go_wp2_with fail
          exact bodyPost_ret (v := .agg #[.int .i64 0, .string ⟨#[]⟩, .int .i64 0]) (by simp [results, Tryd.results26, go_sem]) rfl ⟨by rw [HV.out]; rfl, (Below.refl _ w).alloc (Nat.le_refl _) _⟩
        | false =>
          have hzz : 1 < (c0 :: tl).length → ¬ c0 = 48 := fun _ => u8_not (x := (B (c0 :: tl))[0]'hb0) (n := 48) (by decide) e5
          clear hz
          go_wp2_with fail
          refine (C5.out _).mono ?_
          rintro e w1 ⟨rfl, rfl⟩
          by_cases hg : great (c0 :: tl) = true
          · have HV := Lib.hid (show tok (s.drop a) = (0, []) by rw [HT.out, if_pos (.inr hg)])
            rw [hg]
            clear HT hg
            go_wp2_with fail
            exact bodyPost_ret (v := .agg #[.int .i64 0, .string ⟨#[]⟩, .int .i64 0]) (by simp [results, Tryd.results26, go_sem]) rfl ⟨by rw [HV.out]; rfl, (Below.refl _ w).alloc (Nat.le_refl _) _⟩
          · have HV := Lib.hid (show tok (s.drop a) = (2, c0 :: tl) by rw [HT.out, if_neg (by rintro (⟨h1, h2⟩ | h1); exact hzz h1 h2; exact hg h1)])
            simp only [Bool.not_eq_true] at hg
            rw [hg]
            clear HT hg
            go_wp2_with fail
            exact bodyPost_ret (v := .agg #[.int .i64 2, .string (B (c0 :: tl)), .int .i64 a]) (by simp [results, Tryd.results26, go_sem]) rfl ⟨by rw [HV.out]; rfl, (Below.refl _ w).alloc (Nat.le_refl _) _⟩
      · have d1 : ¬ (1 : Int) < (tl.length : Int) + 1 := by simp only [List.length_cons] at hz; omega
        have hzz : 1 < (c0 :: tl).length → ¬ c0 = 48 := fun h => absurd h hz
        clear hz
        go_wp2_with fail
        refine (C5.out _).mono ?_
        rintro e w1 ⟨rfl, rfl⟩
        by_cases hg : great (c0 :: tl) = true
        · have HV := Lib.hid (show tok (s.drop a) = (0, []) by rw [HT.out, if_pos (.inr hg)])
          rw [hg]
          clear HT hg
          go_wp2_with fail
          exact bodyPost_ret (v := .agg #[.int .i64 0, .string ⟨#[]⟩, .int .i64 0]) (by simp [results, Tryd.results26, go_sem]) rfl ⟨by rw [HV.out]; rfl, (Below.refl _ w).alloc (Nat.le_refl _) _⟩
        · have HV := Lib.hid (show tok (s.drop a) = (2, c0 :: tl) by rw [HT.out, if_neg (by rintro (⟨h1, h2⟩ | h1); exact hzz h1 h2; exact hg h1)])
          simp only [Bool.not_eq_true] at hg
          rw [hg]
          clear HT hg
          go_wp2_with fail
          exact bodyPost_ret (v := .agg #[.int .i64 2, .string (B (c0 :: tl)), .int .i64 a]) (by simp [results, Tryd.results26, go_sem]) rfl ⟨by rw [HV.out]; rfl, (Below.refl _ w).alloc (Nat.le_refl _) _⟩
end Go.Proofs.YtkbmominplkdkaaDoor
