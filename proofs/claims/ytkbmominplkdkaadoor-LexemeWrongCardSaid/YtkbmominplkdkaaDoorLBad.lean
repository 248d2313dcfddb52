/-
  What begins no token, whatever stands behind it. No program is named here.
-/
import Derived.Test.YtkbmominplkdkaaDoorLPiece
namespace Go.Proofs.YtkbmominplkdkaaDoor
open Go

/-- A text that begins no token, and is not passed over. -/
def BadX (x : Bytes) : Prop := skN false x = 0 ∧ x ≠ [] ∧ (tok x).1 = 0
theorem sk_head {c : UInt8} {r : Bytes} (h : whi c = false) (h2 : c ≠ 47) : skN false (c :: r) = 0 := by
  rw [skN, if_neg (by simp [h]), if_neg (by rintro ⟨h3, _⟩; exact h2 h3)]
theorem bad_other {c : UInt8} (r : Bytes) (h1 : lett c = false) (h2 : dig c = false) (h3 : whi c = false) (h4 : c ≠ 47) (h5 : sign (c :: r) = []) : BadX (c :: r) :=
  ⟨sk_head h3 h4, by simp, by rw [tok_other h1 h2, h5]; rfl⟩
theorem bad_plain {c : UInt8} (r : Bytes) (h1 : okC c = false) (h3 : whi c = false) (h5 : c ∉ sgHeads) : BadX (c :: r) := by
  refine bad_other r ?_ ?_ h3 (by rintro rfl; exact h5 (by decide)) (sign_none h5)
  · rw [← Bool.not_eq_true]; intro h; rw [okC_lett h] at h1; cases h1
  · rw [← Bool.not_eq_true]; intro h; rw [okC_dig h] at h1; cases h1
theorem bad_half {c : UInt8} (r : Bytes) (h1 : lett c = false) (h2 : dig c = false) (h3 : whi c = false) (h4 : c ≠ 47) (h5 : sign [c] = []) : BadX (c :: 32 :: r) := by
  refine bad_other _ h1 h2 h3 h4 ?_
  have := sign_sep (x := [c]) (s := 32 :: r) (by show whi 32 = true; decide)
  rw [List.singleton_append] at this
  rw [this, h5]
theorem bad_line (r : Bytes) : BadX (95 :: r) := bad_other r (by decide) (by decide) (by decide) (by decide) (sign_ok (by decide))
theorem bad_zero {d : UInt8} (r : Bytes) (hd : dig d = true) : BadX (48 :: d :: 32 :: r) := by
  refine ⟨sk_head (by decide) (by decide), by simp, ?_⟩
  have hrow : row (48 :: d :: 32 :: r) = [48, d] := by
    have := row_of_all (t := [48, d]) (by simp only [List.all_cons, List.all_nil, okC_dig hd, Bool.and_true]; decide) (32 :: r)
    rw [row_sep (s := 32 :: r) (by show whi 32 = true; decide)] at this
    simpa using this
  rw [tok_digits (by decide) (by
    rw [hrow]
    intro x hx
    rcases List.mem_cons.1 hx with rfl | hx
    · exact (dig_iff _).1 (by decide)
    · rw [List.mem_singleton] at hx; subst hx; exact (dig_iff _).1 hd), hrow, if_pos (.inl ⟨by simp, rfl⟩)]
theorem bad_spoilt {d : UInt8} (r : Bytes) (hd : okC d = true) (hn : dig d = false) : BadX (49 :: d :: r) := by
  refine ⟨sk_head (by decide) (by decide), by simp, ?_⟩
  rw [tok_spoilt (d := d) (by decide) (by rw [row_cons (by decide), row_cons hd]; simp) hn]
theorem great_more (D r : Bytes) (h : (decide (19 < D.length) || (decide (D.length = 19) && great D)) = true) : great (D ++ r) = true := by
  simp only [Bool.or_eq_true, Bool.and_eq_true, decide_eq_true_eq] at h
  cases r with
  | nil =>
    rw [List.append_nil]
    rcases h with h | h
    · unfold great; rw [decide_eq_true h]; rfl
    · exact h.2
  | cons c r =>
    have : 19 < (D ++ c :: r).length := by rw [List.length_append, List.length_cons]; omega
    unfold great; rw [decide_eq_true this]; rfl
theorem bad_great (c : UInt8) (D r : Bytes) (hc : dig c = true) (h0 : c ≠ 47) (hw : whi c = false) (hD : (c :: D).all dig = true) (h : (decide (19 < (c :: D).length) || (decide ((c :: D).length = 19) && great (c :: D))) = true) : BadX (c :: D ++ r) := by
  refine ⟨sk_head hw h0, by simp, ?_⟩
  have hrow : row (c :: D ++ r) = c :: D ++ row r := row_of_all (by
    rw [List.all_eq_true] at hD ⊢
    exact fun x hx => okC_dig (hD x hx)) r
  by_cases hd : ∀ d ∈ row (c :: D ++ r), isDig d
  · have e : c :: D ++ r = c :: (D ++ r) := rfl
    rw [e] at hd hrow ⊢
    rw [tok_digits hc hd, hrow, if_pos (.inr (great_more _ _ h))]
  · have : ∃ d ∈ row (c :: D ++ r), dig d = false := by
      apply Classical.byContradiction
      intro hn
      apply hd
      intro d hd'
      rw [← dig_iff, ← Bool.not_eq_false]
      exact fun h => hn ⟨d, hd', h⟩
    obtain ⟨d, h1, h2⟩ := this
    have e : c :: D ++ r = c :: (D ++ r) := rfl
    rw [e] at h1 ⊢
    rw [tok_spoilt hc h1 h2]
theorem bad_long (c : UInt8) (D r : Bytes) (hc : lett c = true) (h0 : c ≠ 47) (hw : whi c = false) (hD : (c :: D).all okC = true) (h : 16 < (c :: D).length) : BadX (c :: D ++ r) := by
  refine ⟨sk_head hw h0, by simp, ?_⟩
  have hrow : row (c :: D ++ r) = c :: D ++ row r := row_of_all hD r
  have hl : 16 < (row (c :: D ++ r)).length := by rw [hrow, List.length_append]; omega
  have hk : kwB (row (c :: D ++ r)) = false := by
    rw [← Bool.not_eq_true]
    intro hk
    have := kwB_len hk
    omega
  have e : c :: D ++ r = c :: (D ++ r) := rfl
  rw [e] at hl hk ⊢
  rw [tok_letter hc, hk, if_neg (by simp), if_pos hl]
theorem bad_0 (r : Bytes) : BadX ([36] ++ r) := bad_plain r (by decide) (by decide) (by decide)
theorem bad_1 (r : Bytes) : BadX ([0] ++ r) := bad_plain r (by decide) (by decide) (by decide)
theorem bad_2 (r : Bytes) : BadX ([38, 32] ++ r) := bad_half r (by decide) (by decide) (by decide) (by decide) (by decide +kernel)
theorem bad_3 (r : Bytes) : BadX ([124, 32] ++ r) := bad_half r (by decide) (by decide) (by decide) (by decide) (by decide +kernel)
theorem bad_4 (r : Bytes) : BadX ([34] ++ r) := bad_plain r (by decide) (by decide) (by decide)
theorem bad_5 (r : Bytes) : BadX ([39] ++ r) := bad_plain r (by decide) (by decide) (by decide)
theorem bad_6 (r : Bytes) : BadX ([95] ++ r) := bad_line r
theorem bad_7 (r : Bytes) : BadX ([48, 48, 32] ++ r) := bad_zero r (by decide)
theorem bad_8 (r : Bytes) : BadX ([48, 49, 32] ++ r) := bad_zero r (by decide)
theorem bad_9 (r : Bytes) : BadX ([49, 97] ++ r) := bad_spoilt r (by decide) (by decide)
theorem bad_10 (r : Bytes) : BadX ([49, 95] ++ r) := bad_spoilt r (by decide) (by decide)
theorem bad_11 (r : Bytes) : BadX ([57, 50, 50, 51, 51, 55, 50, 48, 51, 54, 56, 53, 52, 55, 55, 53, 56, 48, 56] ++ r) := bad_great 57 [50, 50, 51, 51, 55, 50, 48, 51, 54, 56, 53, 52, 55, 55, 53, 56, 48, 56] r (by decide) (by decide) (by decide) (by decide +kernel) (by decide +kernel)
theorem bad_12 (r : Bytes) : BadX ([49, 48, 48, 48, 48, 48, 48, 48, 48, 48, 48, 48, 48, 48, 48, 48, 48, 48, 48, 48] ++ r) := bad_great 49 [48, 48, 48, 48, 48, 48, 48, 48, 48, 48, 48, 48, 48, 48, 48, 48, 48, 48, 48] r (by decide) (by decide) (by decide) (by decide +kernel) (by decide +kernel)
theorem bad_13 (r : Bytes) : BadX ([97, 98, 99, 100, 101, 102, 103, 104, 105, 106, 107, 108, 109, 110, 111, 112, 113] ++ r) := bad_long 97 [98, 99, 100, 101, 102, 103, 104, 105, 106, 107, 108, 109, 110, 111, 112, 113] r (by decide) (by decide) (by decide) (by decide +kernel) (by decide)
theorem bad_14 (r : Bytes) : BadX ([255] ++ r) := bad_plain r (by decide) (by decide) (by decide)
theorem bad_15 (r : Bytes) : BadX ([46] ++ r) := bad_plain r (by decide) (by decide) (by decide)
theorem bad_16 (r : Bytes) : BadX ([58] ++ r) := bad_plain r (by decide) (by decide) (by decide)
theorem bad_17 (r : Bytes) : BadX ([35] ++ r) := bad_plain r (by decide) (by decide) (by decide)
theorem bad_18 (r : Bytes) : BadX ([64] ++ r) := bad_plain r (by decide) (by decide) (by decide)
theorem bad_19 (r : Bytes) : BadX ([126] ++ r) := bad_plain r (by decide) (by decide) (by decide)
end Go.Proofs.YtkbmominplkdkaaDoor
