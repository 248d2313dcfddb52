/-
  Tokens that stand one right behind the other are found again. No program is named here.
-/
import Derived.Test.YtoldhocdfkndbaaGreatDoorLMath
namespace Go.Proofs.YtoldhocdfkndbaaGreatDoor.E5
open Go Go.Proofs.YtoldhocdfkndbaaGreatDoor Go.Proofs.YtoldhocdfkndbaaGreatDoor.L4

/-- What may stand behind a token: nothing, white space, or a byte that does not go on with it. -/
def folB (k : Int) (t : List UInt8) : List UInt8 → Bool
  | [] => true
  | c :: _ => whi c || (if k = 4 then (if t = [60] ∨ t = [62] ∨ t = [33] ∨ t = [61] then c != 61 else if t = [47] then c != 47 else true) else !okC c)
theorem tok_all {k : Int} {t : List UInt8} (h : IsTok k t) (hk : k ≠ 4) : t.all okC = true ∧ t ≠ [] := by
  obtain ⟨h1, h2, h3⟩ := tok_is h.1 h.2
  refine ⟨?_, h3⟩
  by_cases hr : row t = []
  · exfalso
    have := h.1
    unfold tok at this
    rw [hr, kwB_nil, numB_nil] at this
    simp only [nameB, Bool.false_eq_true, if_false] at this
    split at this
    · exact hk (Prod.mk.inj this).1.symm
    · exact h.2 (Prod.mk.inj this).1.symm
  · have hs : sign t = [] := by
      cases t with
      | nil => exact absurd rfl hr
      | cons c r =>
        refine sign_ok ?_
        rw [← Bool.not_eq_false]
        exact fun hc => hr (row_stop hc)
    have h1 := h.1
    unfold tok at h1
    rw [hs] at h1
    have e : row t = t := by
      split at h1
      · exact (Prod.mk.inj h1).2
      · split at h1
        · exact (Prod.mk.inj h1).2
        · split at h1
          · exact (Prod.mk.inj h1).2
          · exact absurd (Prod.mk.inj h1).1.symm h.2
    rw [← e]; exact row_all t
theorem tok_sign {t : List UInt8} (h : IsTok 4 t) : t ∈ sgL := by
  have := h.1
  unfold tok at this
  split at this
  · cases this
  · split at this
    · cases this
    · split at this
      · cases this
      · split at this
        · rename_i hs
          have e : sign t = t := (Prod.mk.inj this).2
          exact e ▸ (sign_mem hs).1
        · cases this
theorem sg_seconds : ∀ y ∈ sgL, y.length = 1 ∨ ∃ a b, y = [a, b] ∧ ([a] ∈ sgL → b = 61 ∧ ([a] = [60] ∨ [a] = [62] ∨ [a] = [33] ∨ [a] = ([61] : List UInt8))) := by
  intro y hy
  simp only [sgL, List.mem_cons, List.not_mem_nil, or_false] at hy
  rcases hy with rfl | rfl | rfl | rfl | rfl | rfl | rfl | rfl | rfl | rfl | rfl | rfl | rfl | rfl | rfl | rfl | rfl | rfl | rfl | rfl | rfl | rfl | rfl <;>
    first | exact .inl rfl | exact .inr ⟨_, _, rfl, by decide⟩
theorem isPre_adj {y t s : List UInt8} {c : UInt8} (hy : y ∈ sgL) (ht : t ∈ sgL) (hc : (t = [60] ∨ t = [62] ∨ t = [33] ∨ t = [61]) → c ≠ 61) : y.isPrefixOf (t ++ c :: s) = y.isPrefixOf t := by
  rcases sg_seconds y hy with h1 | ⟨a, b, rfl, hb⟩
  · obtain ⟨a, rfl⟩ := List.length_eq_one_iff.1 h1
    rcases sg_seconds t ht with h2 | ⟨a', b', rfl, _⟩
    · obtain ⟨a', rfl⟩ := List.length_eq_one_iff.1 h2
      simp [List.isPrefixOf]
    · simp [List.isPrefixOf]
  · rcases sg_seconds t ht with h2 | ⟨a', b', rfl, _⟩
    · obtain ⟨a', rfl⟩ := List.length_eq_one_iff.1 h2
      by_cases e : a = a'
      · subst e
        obtain ⟨rfl, h3⟩ := hb ht
        have : ((61 : UInt8) == c) = false := beq_eq_false_iff_ne.2 (fun e => hc h3 e.symm)
        simp [List.isPrefixOf, this]
      · have : (a == a') = false := beq_eq_false_iff_ne.2 e
        simp [List.isPrefixOf, this]
    · simp [List.isPrefixOf]
theorem sign_adj {t s : List UInt8} {c : UInt8} (ht : t ∈ sgL) (hc : (t = [60] ∨ t = [62] ∨ t = [33] ∨ t = [61]) → c ≠ 61) : sign (t ++ c :: s) = sign t := by
  have : ∀ l : List (List UInt8), (∀ y ∈ l, y ∈ sgL) → l.find? (fun y => y.isPrefixOf (t ++ c :: s)) = l.find? (fun y => y.isPrefixOf t) := by
    intro l
    induction l with
    | nil => intro _; rfl
    | cons y l ih =>
      intro hl
      rw [List.find?_cons, List.find?_cons, isPre_adj (hl y (by simp)) ht hc, ih fun z hz => hl z (by simp [hz])]
  unfold sign
  rw [this sgL fun y hy => hy]
theorem tok_fol {k : Int} {t s : List UInt8} (h : IsTok k t) (hs : folB k t s = true) : tok (t ++ s) = (k, t) := by
  cases s with
  | nil => exact tok_sep h rfl
  | cons c s =>
    simp only [folB, Bool.or_eq_true] at hs
    rcases hs with hs | hs
    · exact tok_sep h hs
    · by_cases hk : k = 4
      · subst hk
        have ht := tok_sign h
        have hsg := sign_adj (s := s) ht (c := c) (fun h5 => by rw [if_pos rfl, if_pos h5] at hs; simpa using hs)
        have h4 := h.1
        obtain ⟨a, ha, ha2⟩ := sgL_heads t ht
        cases t with
        | nil => simp at ha2
        | cons b r =>
          simp at ha2; subst ha2
          have hr1 : row (b :: r) = [] := row_stop (heads_not b ha)
          have hr2 : row (b :: r ++ c :: s) = [] := row_stop (r := r ++ c :: s) (heads_not b ha)
          unfold tok at h4 ⊢
          rw [hr2, hsg]
          rw [hr1] at h4
          exact h4
      · rw [if_neg hk] at hs
        obtain ⟨ha, hne⟩ := tok_all h hk
        have hr : row (t ++ c :: s) = t := by
          rw [row_of_all ha, row_stop (by simpa using hs), List.append_nil]
        have hr0 : row t = t := by have := row_of_all ha []; simpa [show row [] = [] from rfl] using this
        have hs0 : sign (t ++ c :: s) = [] ∧ sign t = [] := by
          cases t with
          | nil => exact absurd rfl hne
          | cons a r =>
            have hoa : okC a = true := List.all_eq_true.1 ha a (by simp)
            exact ⟨sign_ok (r := r ++ c :: s) hoa, sign_ok hoa⟩
        have h4 := h.1
        unfold tok at h4 ⊢
        rw [hr, hs0.1]
        rw [hr0, hs0.2] at h4
        exact h4
theorem sk_fol {k : Int} {t s : List UInt8} (h : IsTok k t) (hs : folB k t s = true) : skN false (t ++ s) = 0 := by
  obtain ⟨c, r, rfl, h1, h2⟩ := isTok_head h
  rw [List.cons_append, skN, h1, if_neg (by simp)]
  rw [if_neg]
  rintro ⟨rfl, h3⟩
  cases r with
  | nil =>
    rw [List.nil_append] at h3
    cases s with
    | nil => cases h3
    | cons d s =>
      simp at h3; subst h3
      have hk : k = 4 := by
        apply Decidable.byContradiction
        intro hk
        have := (tok_all h hk).1
        exact absurd this (by decide)
      subst hk
      have hs : (whi 47 || false) = true := hs
      exact absurd hs (by decide)
  | cons d r => exact h2 rfl (by simpa using h3)
/-- Each token's neighbour does not go on with it. -/
def FolL : List It → Prop
  | [] => True
  | i :: l => folB i.k i.t (tx l []) = true ∧ FolL l
theorem scan_fol_items (S : List UInt8) : ∀ (l : List It), (∀ i ∈ l, GapOk i.g ∧ IsTok i.k i.t) → FolL l → ∀ (F e : Nat), S.drop e = tx l [] → e ≤ S.length → S.length < F + skAt S e → scN S F (skAt S e) = (wt e l, none) := by
  intro l
  induction l with
  | nil => intro _ _ F e h1 h2 h3; exact end_good rfl F e h1 h2 h3
  | cons i l ih =>
    intro hok hs F e h1 h2 h3
    obtain ⟨hg, ht⟩ := hok i (by simp)
    obtain ⟨hrest, hs⟩ := hs
    obtain ⟨_, _, hne⟩ := tok_is ht.1 ht.2
    have htl : 0 < i.t.length := List.length_pos_iff.2 hne
    have hsk : skAt S e = e + i.g.length := by
      unfold skAt
      rw [h1, tx, hg, sk_fol ht hrest]; omega
    have hd : S.drop (e + i.g.length) = i.t ++ tx l [] := by
      rw [← List.drop_drop, h1, tx, List.drop_left]
    have hlen : e + i.g.length + i.t.length ≤ S.length := by
      have := congrArg List.length hd
      rw [List.length_drop, List.length_append] at this
      omega
    have hd2 : S.drop (e + i.g.length + i.t.length) = tx l [] := by
      rw [← List.drop_drop, hd, List.drop_left]
    rw [hsk] at h3 ⊢
    cases F with
    | zero => omega
    | succ F =>
      have htk : tok (S.drop (e + i.g.length)) = (i.k, i.t) := by rw [hd]; exact tok_fol ht hrest
      have hge : e + i.g.length + i.t.length ≤ skAt S (e + i.g.length + i.t.length) := (skAt_le _ _ hlen).1
      rw [scN, if_pos (by omega), htk]
      simp only [if_neg ht.2]
      rw [ih (fun j hj => hok j (by simp [hj])) hs F (e + i.g.length + i.t.length) hd2 hlen (by omega)]
      rfl
theorem scan_fol {l : List It} (hok : ∀ i ∈ l, GapOk i.g ∧ IsTok i.k i.t) (hs : FolL l) : scan (tx l []) = (wt 0 l, none) :=
  scan_fol_items (tx l []) l hok hs ((tx l []).length + 1) 0 (by simp) (Nat.zero_le _) (by omega)
theorem gap_nil : GapOk [] := fun x => by simp
theorem gap_space : GapOk [32] := fun x => by
  rw [List.singleton_append, skN, if_pos (by decide)]; rfl
end Go.Proofs.YtoldhocdfkndbaaGreatDoor.E5
