/-
  WHICH TOKEN A TEXT BEGINS WITH, by its first byte; tokens with something behind them. No program is named here.
-/
import Derived.Test.YtkpbplmmphpokaaGreatDoorLMath
namespace Go.Proofs.YtkpbplmmphpokaaGreatDoor.L4
open Go

theorem okC_lett {c : UInt8} (h : lett c = true) : okC c = true := by unfold okC; rw [h]; rfl
theorem okC_dig {c : UInt8} (h : dig c = true) : okC c = true := by unfold okC; rw [h]; simp
theorem row_cons {c : UInt8} {r : Bytes} (h : okC c = true) : row (c :: r) = c :: row r := by unfold row; rw [List.takeWhile_cons, if_pos h]
theorem row_stop {c : UInt8} {r : Bytes} (h : okC c = false) : row (c :: r) = [] := by unfold row; rw [List.takeWhile_cons, if_neg (by simp [h])]
def sgHeads : Bytes := [124, 38, 61, 33, 60, 62, 40, 41, 123, 125, 91, 93, 44, 59, 43, 45, 42, 47, 37]
theorem sign_nil {s : Bytes} (h : ∀ x ∈ sgL, x.isPrefixOf s = false) : sign s = [] := by
  unfold sign
  rw [List.find?_eq_none.2 (fun x hx => by simp [h x hx])]
  rfl
theorem sgL_heads : ∀ x ∈ sgL, ∃ a ∈ sgHeads, x.head? = some a := by decide +kernel
theorem sign_none {c : UInt8} {r : Bytes} (h : c ∉ sgHeads) : sign (c :: r) = [] := by
  refine sign_nil fun x hx => ?_
  obtain ⟨a, ha, hxa⟩ := sgL_heads x hx
  cases x with
  | nil => simp at hxa
  | cons b t =>
    simp only [List.head?_cons, Option.some.injEq] at hxa
    subst hxa
    rw [List.isPrefixOf_cons_cons, Bool.and_eq_false_iff]
    left
    rw [beq_eq_false_iff_ne]
    rintro rfl
    exact h ha
theorem heads_not : ∀ a ∈ sgHeads, okC a = false := by decide +kernel
theorem sign_ok {c : UInt8} {r : Bytes} (h : okC c = true) : sign (c :: r) = [] := sign_none fun hm => by rw [heads_not c hm] at h; cases h
theorem kws_heads : ∀ x ∈ kwsL, (match x with | [] => false | c :: _ => lett c) = true := by decide +kernel
theorem kwB_lett {c : UInt8} {t : Bytes} (h : kwB (c :: t) = true) : lett c = true := by
  unfold kwB at h
  rw [List.contains_iff_mem] at h
  exact kws_heads _ h
theorem kwB_nil : kwB [] = false := by decide +kernel
theorem kws_len : ∀ x ∈ kwsL, x.length ≤ 6 := by decide +kernel
theorem kwB_len {s : Bytes} (h : kwB s = true) : s.length ≤ 6 := by
  unfold kwB at h
  rw [List.contains_iff_mem] at h
  exact kws_len _ h

theorem tok_letter {c : UInt8} {r : Bytes} (h : lett c = true) :
    tok (c :: r) = if kwB (row (c :: r)) then (3, row (c :: r)) else if 16 < (row (c :: r)).length then (0, []) else (1, row (c :: r)) := by
  have hr := row_cons (r := r) (okC_lett h)
  have h1 : numB (row (c :: r)) = false := numB_no (row_all _) (c := c) (by rw [hr]; simp) (lett_dig h)
  have h2 : sign (c :: r) = [] := sign_ok (okC_lett h)
  have h3 : nameB (row (c :: r)) = decide ((row (c :: r)).length ≤ 16) := by rw [hr]; simp [nameB, h]
  unfold tok
  rw [h1, h2, h3]
  by_cases hk : kwB (row (c :: r)) = true
  · simp [hk]
  · by_cases h4 : 16 < (row (c :: r)).length
    · simp [hk, h4, show ¬ (row (c :: r)).length ≤ 16 by omega]
    · simp [hk, h4, show (row (c :: r)).length ≤ 16 by omega]
/-- A row of digits with a letter or _ behind it begins no token. -/
theorem tok_spoilt {c d : UInt8} {r : Bytes} (h : dig c = true) (hd : d ∈ row (c :: r)) (hn : dig d = false) : tok (c :: r) = (0, []) := by
  have hr := row_cons (r := r) (okC_dig h)
  have hl : lett c = false := by
    rw [← Bool.not_eq_true]; intro hl; rw [lett_dig hl] at h; cases h
  have h1 : numB (row (c :: r)) = false := numB_no (row_all _) hd hn
  have h2 : sign (c :: r) = [] := sign_ok (okC_dig h)
  have h3 : nameB (row (c :: r)) = false := by rw [hr]; simp [nameB, hl]
  have h4 : kwB (row (c :: r)) = false := by
    rw [← Bool.not_eq_true]; intro hk; rw [hr] at hk; rw [kwB_lett hk] at hl; cases hl
  unfold tok
  rw [h1, h2, h3, h4]
  rfl
theorem tok_digits {c : UInt8} {r : Bytes} (h : dig c = true) (hd : ∀ d ∈ row (c :: r), isDig d) :
    tok (c :: r) = if (1 < (row (c :: r)).length ∧ c = 48) ∨ great (row (c :: r)) = true then (0, []) else (2, row (c :: r)) := by
  have hr := row_cons (r := r) (okC_dig h)
  have hl : lett c = false := by
    rw [← Bool.not_eq_true]; intro hl; rw [lett_dig hl] at h; cases h
  have h2 : sign (c :: r) = [] := sign_ok (okC_dig h)
  have h3 : nameB (row (c :: r)) = false := by rw [hr]; simp [nameB, hl]
  have h4 : kwB (row (c :: r)) = false := by
    rw [← Bool.not_eq_true]; intro hk; rw [hr] at hk; rw [kwB_lett hk] at hl; cases hl
  have hne : row (c :: r) ≠ [] := by rw [hr]; simp
  have h5 := numB_digs hd hne
  have hh : (row (c :: r)).head? = some c := by rw [hr]; rfl
  have hlen : 1 ≤ (row (c :: r)).length := by rw [hr]; simp
  unfold tok
  rw [h2, h3, h4, h5]
  by_cases hz : 1 < (row (c :: r)).length ∧ c = 48
  · have hz1 := hz.1
    have : ¬ ((row (c :: r)).head? ≠ some 48 ∨ (row (c :: r)).length = 1) := by
      rintro (h6 | h6)
      · exact h6 (hh.trans (by rw [hz.2]))
      · omega
    rw [decide_eq_false this, if_pos (Or.inl hz), Bool.false_and]
    rfl
  · have h0 : (row (c :: r)).head? ≠ some 48 ∨ (row (c :: r)).length = 1 := by
      by_cases hc : c = 48
      · right
        rcases Nat.lt_or_ge 1 (row (c :: r)).length with h6 | h6
        · exact absurd ⟨h6, hc⟩ hz
        · omega
      · left; rw [hh]; simpa using hc
    have hg := great_is hd hne h0
    rw [decide_eq_true h0, hg]
    simp only [hz, false_or, Bool.true_and, decide_eq_true_eq]
    by_cases hb : 9223372036854775807 < numAt 0 (row (c :: r))
    · simp [hb, show ¬ numAt 0 (row (c :: r)) ≤ 9223372036854775807 by omega]
    · simp [hb, show numAt 0 (row (c :: r)) ≤ 9223372036854775807 by omega]
theorem tok_other {c : UInt8} {r : Bytes} (h1 : lett c = false) (h2 : dig c = false) : tok (c :: r) = if sign (c :: r) ≠ [] then (4, sign (c :: r)) else (0, []) := by
  by_cases h3 : okC c = true
  · have hr := row_cons (r := r) h3
    have h4 : numB (row (c :: r)) = false := numB_no (row_all _) (c := c) (by rw [hr]; simp) h2
    have h5 : nameB (row (c :: r)) = false := by rw [hr]; simp [nameB, h1]
    have h6 : kwB (row (c :: r)) = false := by
      rw [← Bool.not_eq_true]; intro hk; rw [hr] at hk; rw [kwB_lett hk] at h1; cases h1
    unfold tok
    rw [h4, h5, h6]
    rfl
  · have hr := row_stop (r := r) (by simpa using h3 : okC c = false)
    unfold tok
    rw [hr, kwB_nil, numB_nil]
    rfl

/-! ### tokens and what stands behind them -/
def sepB (s : Bytes) : Bool := match s with | [] => true | c :: _ => whi c
theorem whi_ok {c : UInt8} (h : whi c = true) : c = 32 ∨ c = 9 ∨ c = 13 ∨ c = 10 := by
  unfold whi whiI at h
  simp only [Bool.or_eq_true, beq_iff_eq] at h
  rcases h with ((h | h) | h) | h
  · exact .inl (UInt8.toNat_inj.1 (by simpa using (show c.toNat = 32 by omega)))
  · exact .inr (.inl (UInt8.toNat_inj.1 (by simpa using (show c.toNat = 9 by omega))))
  · exact .inr (.inr (.inl (UInt8.toNat_inj.1 (by simpa using (show c.toNat = 13 by omega)))))
  · exact .inr (.inr (.inr (UInt8.toNat_inj.1 (by simpa using (show c.toNat = 10 by omega)))))
theorem row_sep {s : Bytes} (h : sepB s = true) : row s = [] := by
  cases s with
  | nil => rfl
  | cons c r => rcases whi_ok h with rfl | rfl | rfl | rfl <;> exact row_stop (by decide)
theorem row_of_all {t : Bytes} (h : t.all okC = true) (s : Bytes) : row (t ++ s) = t ++ row s := by
  unfold row
  rw [List.takeWhile_append_of_pos]
  intro a ha
  exact List.all_eq_true.1 h a ha
theorem row_self (s : Bytes) : row (row s) = row s := by
  have := row_of_all (row_all s) []
  simp only [List.append_nil] at this
  rw [this]
  show row s ++ [] = row s
  simp
def IsTok (k : Int) (t : Bytes) : Prop := tok t = (k, t) ∧ k ≠ 0
theorem sg_toks : ∀ x ∈ sgL, tok x = (4, x) := by decide +kernel
theorem sg_ne : ∀ x ∈ sgL, x ≠ [] := by decide +kernel
theorem sign_mem {s : Bytes} (h : sign s ≠ []) : sign s ∈ sgL ∧ (sign s).isPrefixOf s = true := by
  unfold sign at h ⊢
  cases hf : sgL.find? (fun x => x.isPrefixOf s) with
  | none => rw [hf] at h; exact absurd rfl h
  | some x => exact ⟨List.mem_of_find?_eq_some hf, by simpa using List.find?_some hf⟩
theorem tok_ok (t : Bytes) (h : t.all okC = true) (hne : t ≠ []) : tok t = if kwB t then (3, t) else if nameB t then (1, t) else if numB t then (2, t) else (0, []) := by
  have hr : row t = t := by have := row_of_all h []; simp only [List.append_nil] at this; rw [this]; show t ++ [] = t; simp
  have hs : sign t = [] := by
    cases t with
    | nil => exact absurd rfl hne
    | cons c r => exact sign_ok (by simpa using (List.all_eq_true.1 h c (by simp)))
  unfold tok
  rw [hr, hs]
  rfl
/-- The token of a text stands for itself. -/
theorem tok_is {r : Bytes} {k : Int} {t : Bytes} (h : tok r = (k, t)) (hk : k ≠ 0) : IsTok k t ∧ t <+: r ∧ t ≠ [] := by
  by_cases hr : row r = []
  · unfold tok at h
    rw [hr, kwB_nil, numB_nil] at h
    simp only [nameB, Bool.false_eq_true, if_false] at h
    split at h
    · rename_i hs
      cases h
      obtain ⟨h1, h2⟩ := sign_mem hs
      exact ⟨⟨sg_toks _ h1, by decide⟩, List.isPrefixOf_iff_prefix.1 h2, hs⟩
    · cases h; exact absurd rfl hk
  · have hs : sign r = [] := by
      cases r with
      | nil => exact absurd rfl hr
      | cons c r =>
        refine sign_ok ?_
        rw [← Bool.not_eq_false]
        exact fun hc => hr (row_stop hc)
    have h1 := tok_ok (row r) (row_all r) hr
    have h2 : tok r = tok (row r) := by
      rw [h1]
      unfold tok
      rw [hs]
      rfl
    have h3 : t = row r := by
      rw [h2, h1] at h
      split at h
      · cases h; rfl
      · split at h
        · cases h; rfl
        · split at h
          · cases h; rfl
          · cases h; exact absurd rfl hk
    subst h3
    exact ⟨⟨h2 ▸ h, hk⟩, row_pre r, hr⟩
theorem isPre_behind {y x : Bytes} {c : UInt8} {r : Bytes} (hc : c ∉ y) : y.isPrefixOf (x ++ c :: r) = y.isPrefixOf x := by
  induction y generalizing x with
  | nil => simp
  | cons a y ih =>
    simp only [List.mem_cons, not_or] at hc
    cases x with
    | nil => simp [List.isPrefixOf]; intro e; exact absurd e.symm hc.1
    | cons b x => rw [List.cons_append, List.isPrefixOf_cons_cons, List.isPrefixOf_cons_cons, ih hc.2]
theorem sg_white : ∀ y ∈ sgL, ∀ c ∈ ([32, 9, 13, 10] : Bytes), c ∉ y := by decide +kernel
theorem sign_sep {x s : Bytes} (h : sepB s = true) : sign (x ++ s) = sign x := by
  cases s with
  | nil => rw [List.append_nil]
  | cons c r =>
    have hc : c ∈ ([32, 9, 13, 10] : Bytes) := by rcases whi_ok h with rfl | rfl | rfl | rfl <;> decide
    have : ∀ l : List Bytes, (∀ y ∈ l, c ∉ y) → l.find? (fun y => y.isPrefixOf (x ++ c :: r)) = l.find? (fun y => y.isPrefixOf x) := by
      intro l
      induction l with
      | nil => intro _; rfl
      | cons y l ih =>
        intro hl
        rw [List.find?_cons, List.find?_cons, isPre_behind (hl y (by simp)), ih fun z hz => hl z (by simp [hz])]
    unfold sign
    rw [this sgL fun y hy => sg_white y hy c hc]
theorem tok_sep {k : Int} {t s : Bytes} (h : IsTok k t) (hs : sepB s = true) : tok (t ++ s) = (k, t) := by
  have hr : row (t ++ s) = row t := by
    by_cases ha : t.all okC = true
    · rw [row_of_all ha, row_sep hs]
      have := row_of_all ha []
      simp only [List.append_nil] at this
      rw [this]; rfl
    · unfold row
      rw [List.takeWhile_append]
      have : (List.takeWhile okC t).length ≠ t.length := by
        intro e
        apply ha
        have h1 : List.takeWhile okC t = t := (List.takeWhile_prefix _).eq_of_length e
        rw [← h1]; exact row_all t
      rw [if_neg this]
  have := h.1
  unfold tok at this ⊢
  rw [hr, sign_sep hs]
  exact this
theorem isTok_head {k : Int} {t : Bytes} (h : IsTok k t) : ∃ c r, t = c :: r ∧ whi c = false ∧ (c = 47 → r.head? ≠ some 47) := by
  obtain ⟨h1, h2, h3⟩ := tok_is h.1 h.2
  by_cases hr : row t = []
  · have hs : sign t = t ∧ t ∈ sgL := by
      have := h.1
      unfold tok at this
      rw [hr, kwB_nil, numB_nil] at this
      simp only [nameB, Bool.false_eq_true, if_false] at this
      split at this
      · rename_i hs
        have e : sign t = t := (Prod.mk.inj this).2
        exact ⟨e, e ▸ (sign_mem hs).1⟩
      · exact absurd (Prod.mk.inj this).1.symm h.2
    have : ∀ x ∈ sgL, (match x with | [] => false | c :: r => !whi c && !(c == 47 && r.head? == some 47)) = true := by decide +kernel
    have := this t hs.2
    cases t with
    | nil => exact absurd rfl h3
    | cons c r =>
      simp only [Bool.and_eq_true, Bool.not_eq_true', Bool.and_eq_false_iff, beq_eq_false_iff_ne] at this
      refine ⟨c, r, rfl, this.1, fun hc => ?_⟩
      rcases this.2 with h4 | h4
      · exact absurd hc h4
      · exact h4
  · cases t with
    | nil => exact absurd rfl h3
    | cons c r =>
      have hc : okC c = true := by
        rw [← Bool.not_eq_false]
        exact fun hc => hr (row_stop hc)
      refine ⟨c, r, rfl, ?_, ?_⟩
      · rw [← Bool.not_eq_true]
        intro hw
        rcases whi_ok hw with rfl | rfl | rfl | rfl <;> exact absurd hc (by decide)
      · rintro rfl; exact absurd hc (by decide)
theorem sk_tok {k : Int} {t s : Bytes} (h : IsTok k t) (hs : sepB s = true) : skN false (t ++ s) = 0 := by
  obtain ⟨c, r, rfl, h1, h2⟩ := isTok_head h
  rw [List.cons_append, skN, h1, if_neg (by simp)]
  rw [if_neg]
  rintro ⟨rfl, h3⟩
  cases r with
  | nil =>
    rw [List.nil_append] at h3
    cases s with
    | nil => cases h3
    | cons d s => simp at h3; subst h3; have hs : whi 47 = true := hs; exact absurd hs (by decide)
  | cons d r => exact h2 rfl (by simpa using h3)
end Go.Proofs.YtkpbplmmphpokaaGreatDoor.L4
