/-
  Which strings are places, and what strings.Replace at a colon gives. No program is named here (but through Parse's own plain part).
-/
import Derived.Test.YthjpcfohpbbacaaDoorRefParse
import Derived.Lib.Replace
import Derived.Lib.SplitLaws
namespace Go.Proofs.YthjpcfohpbbacaaDoor
open Go

theorem placeParse_eq {s p r : Bytes} (hs : s = p ++ 58 :: r) (hp : (58 : UInt8) ∉ p) :
    placeParse s = if 1 ≤ placeNum p ∧ 1 ≤ placeNum r ∧ p = Lib.itoa (placeNum p) ∧ r = Lib.itoa (placeNum r) then some (placeNum p, placeNum r) else none := by
  have e : placeParse s = giveP s (placeNum (upTo 58 s)) (placeNum ((behind 58 s).getD [])) := rfl
  have u := upTo_of (r := r) hp
  rw [e, giveP_eq hs hp, hs, u.1, u.2]
  rfl
theorem placeNum_itoa (n : Nat) (h : n ≤ 9223372036854775807) : placeNum (Lib.itoa (n : Int)) = n := by unfold placeNum; rw [atoi_itoa n h]
theorem parse_some (l c : Nat) (hl : 1 ≤ l) (hc : 1 ≤ c) (hl2 : l ≤ 9223372036854775807) (hc2 : c ≤ 9223372036854775807) :
    placeParse (Lib.itoa (l : Int) ++ 58 :: Lib.itoa (c : Int)) = some ((l : Int), (c : Int)) := by
  rw [placeParse_eq rfl (itoa_free l 58 (by unfold isDig; decide)), placeNum_itoa l hl2, placeNum_itoa c hc2, if_pos ⟨by omega, by omega, rfl, rfl⟩]
theorem parse_none {p r : Bytes} (hp : (58 : UInt8) ∉ p) (h : (∀ n : Nat, 1 ≤ n → p ≠ Lib.itoa (n : Int)) ∨ (∀ n : Nat, 1 ≤ n → r ≠ Lib.itoa (n : Int))) : placeParse (p ++ 58 :: r) = none := by
  rw [placeParse_eq rfl hp, if_neg]
  rintro ⟨h1, h2, h3, h4⟩
  obtain ⟨a, ha⟩ := Int.eq_ofNat_of_zero_le (show 0 ≤ placeNum p by omega)
  obtain ⟨b, hb⟩ := Int.eq_ofNat_of_zero_le (show 0 ≤ placeNum r by omega)
  rw [ha] at h1 h3
  rw [hb] at h2 h4
  rcases h with h | h
  · exact h a (by omega) h3
  · exact h b (by omega) h4
theorem parse_free {s : Bytes} (h : (58 : UInt8) ∉ s) : placeParse s = none := by
  have e : placeParse s = giveP s (placeNum (upTo 58 s)) (placeNum ((behind 58 s).getD [])) := rfl
  rw [e, (upTo_self h).2]
  have : placeNum (Option.getD none []) = 0 := by decide
  rw [this]
  unfold giveP placeText
  rw [if_pos (by omega)]

theorem dec_head (u : Nat) : 1 ≤ u → ∃ c t, Lib.decDigits u = c :: t ∧ c ≠ 48 := by
  induction u using Nat.strongRecOn with
  | _ u ih =>
    intro hu
    rw [Lib.decDigits]
    by_cases h : u < 10
    · rw [dif_pos h]
      refine ⟨_, [], rfl, ?_⟩
      intro e
      have := congrArg UInt8.toNat e
      rw [digOf u h] at this
      simp at this
      omega
    · rw [dif_neg h]
      obtain ⟨c, t, h1, h2⟩ := ih (u / 10) (by omega) (by omega)
      exact ⟨c, _, by rw [h1]; rfl, h2⟩
theorem itoa_ne_zero (t : Bytes) (n : Nat) (h : 1 ≤ n) : (48 :: t : Bytes) ≠ Lib.itoa (n : Int) := by
  rw [itoa_nn]
  obtain ⟨c, t', h1, h2⟩ := dec_head n h
  rw [h1]
  intro e
  exact h2 (List.cons.inj e).1.symm
theorem itoa_ne_of {l : Bytes} {c : UInt8} (hc : c ∈ l) (hd : ¬ isDig c) (n : Nat) : l ≠ Lib.itoa (n : Int) := fun e => itoa_free n c hd (e ▸ hc)
theorem itoa_ne_nil (n : Nat) : ([] : Bytes) ≠ Lib.itoa (n : Int) := by rw [itoa_nn]; exact fun e => decDigits_ne n e.symm
theorem itoa_more (n : Nat) (c : UInt8) (hn : 1 ≤ n) (hc : isDig c) : Lib.itoa (n : Int) ++ [c] = Lib.itoa ((10 * n + (c.toNat - 48) : Nat) : Int) := by
  unfold isDig at hc
  rw [itoa_nn, itoa_nn]
  conv => rhs; rw [Lib.decDigits]
  rw [dif_neg (by omega), show (10 * n + (c.toNat - 48)) / 10 = n by omega, show (10 * n + (c.toNat - 48)) % 10 = c.toNat - 48 by omega]
  congr 2
  rw [show 48 + (c.toNat - 48) = c.toNat by omega]
  simp

theorem replace_one {p r new : Bytes} (hp : (58 : UInt8) ∉ p) (hn : new ≠ [58]) : Lib.replace (p ++ 58 :: r) [58] new 1 = p ++ new ++ r := by
  have hcount : Lib.count (p ++ 58 :: r) [58] = (p ++ 58 :: r).count 58 := Lib.count_one 58 _
  have h1 : 1 ≤ (p ++ 58 :: r).count 58 := by rw [List.count_append, List.count_cons_self]; omega
  unfold Lib.replace
  rw [if_neg (by intro h; exact hn (beq_iff_eq.1 h).symm)]
  have hnum : Lib.replaceNum (p ++ 58 :: r) [58] 1 = 1 := by
    unfold Lib.replaceNum
    rw [hcount, if_neg (by omega)]; rfl
  rw [hnum]
  have hix : Lib.index (p ++ 58 :: r) [58] = (p.length : Int) := by
    rw [Lib.index_one]
    rcases indexByte_cases (p ++ 58 :: r) 58 with ⟨_, h⟩ | ⟨h, _⟩
    · rw [(upTo_of hp).2] at h; cases h
    · rw [h, (upTo_of hp).1]
  rw [Lib.replaceK_hit _ _ _ _ _ hix, Lib.replaceK]
  simp
end Go.Proofs.YthjpcfohpbbacaaDoor
