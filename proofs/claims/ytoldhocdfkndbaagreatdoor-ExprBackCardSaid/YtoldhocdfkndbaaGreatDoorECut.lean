/-
  Expressions that are cut off. No program is named here.
-/
import Derived.Test.YtoldhocdfkndbaaGreatDoorETree
namespace Go.Proofs.YtoldhocdfkndbaaGreatDoor.E5
open Go Go.Proofs.YtoldhocdfkndbaaGreatDoor

/-- Nothing, or a token with which no expression goes on. -/
def StopL (r : TL) : Prop := r = [] ∨ ∃ t x, r = t :: x ∧ (t = (4, [59]) ∨ t = (3, [102, 117, 110, 99]))
theorem StopL.tk {l rest : TL} {i : Nat} (h : StopL rest) (hd : l.drop i = rest) : tkAt l i = (0, []) ∨ tkAt l i = (4, [59]) ∨ tkAt l i = (3, [102, 117, 110, 99]) := by
  rcases h with rfl | ⟨t, x, rfl, h⟩
  · left
    unfold tkAt
    rw [List.getElem?_eq_none (by simpa using List.drop_eq_nil_iff.1 hd)]; rfl
  · right; rw [(tk_at hd).1]; exact h
theorem StopL.sg {l rest : TL} {i : Nat} (h : StopL rest) (hd : l.drop i = rest) : sgAt l i = [] ∨ sgAt l i = [59] := by
  unfold sgAt
  rcases h.tk hd with h | h | h <;> rw [h] <;> simp
theorem StopL.endB {l rest : TL} {i : Nat} (h : StopL rest) (hd : l.drop i = rest) : endB l i := by
  unfold E5.endB
  rcases h.sg hd with h | h <;> rw [h] <;> decide
theorem StopL.no {l rest : TL} {i : Nat} (h : StopL rest) (hd : l.drop i = rest) {s : Bytes} (h1 : s ≠ []) (h2 : s ≠ [59]) : sgAt l i ≠ s := by
  rcases h.sg hd with h | h <;> rw [h]
  · exact fun e => h1 e.symm
  · exact fun e => h2 e.symm
theorem StopL.opd {l rest : TL} {i : Nat} (h : StopL rest) (hd : l.drop i = rest) (hi : i ≤ l.length) (d : Nat) : opdR l i d = .bad i 7 := by
  have hk : (tkAt l i).1 = 0 ∨ (tkAt l i).1 = 4 ∨ (tkAt l i).1 = 3 := by rcases h.tk hd with h | h | h <;> rw [h] <;> simp
  by_cases h3 : (tkAt l i).1 = 3
  · have ht : tkAt l i = (3, [102, 117, 110, 99]) := by
      rcases h.tk hd with h | h | h
      · rw [h] at h3; simp at h3
      · rw [h] at h3; simp at h3
      · exact h
    rw [opdR_eq l i d hi, if_neg (by omega), if_neg (by omega), if_pos h3]
    unfold keyR
    rw [ht]
    rfl
  · rw [opdR_eq l i d hi, if_neg (by omega), if_neg (by omega), if_neg h3, if_neg (h.no hd (by simp) (by decide)), if_neg (h.no hd (by simp) (by decide)), if_neg (h.no hd (by simp) (by decide))]
theorem StopL.bin {l rest : TL} {i : Nat} (h : StopL rest) (hd : l.drop i = rest) (hi : i ≤ l.length) (d : Nat) (m : Int) (hm : 1 ≤ m) : binR l i d m = .bad i 7 := by
  rw [binR_eq l i d m hm hi, h.opd hd hi]; rfl
/-- What is cut off at its token c, index k: a shorter expression, or its next token is missing. -/
def CutR (ts : TL) (c n k : Nat) (r : Res) : Prop := r = .bad k 7 ∨ ∃ e, r = .ok e k ∧ Gd n e ∧ (ts[c]?).map (·.1) = some 4
def Cut (ts : TL) (c i : Nat) (f : TL → Res) (n : Nat) : Prop := ∃ r, CutR ts c n (i + c) r ∧ ∀ l rest, StopL rest → i ≤ l.length → l.drop i = ts.take c ++ rest → f l = r
theorem take_short {a b : TL} {c : Nat} (h : c ≤ a.length) : (a ++ b).take c = a.take c := List.take_append_of_le_length h
theorem take_long {a b : TL} {c : Nat} (h : a.length ≤ c) : (a ++ b).take c = a ++ b.take (c - a.length) := by
  rw [List.take_append, List.take_of_length_le h]

theorem cut_tree (t : Tr) : t.ok → t.lev ≤ 20 →
    (∀ i d c, c < (parT t.comp t.tk).length → d + t.nest + 1 ≤ 40 → Cut (parT t.comp t.tk) c i (fun l => opdR l i d) t.lev) ∧
    (∀ i d c m, 1 ≤ m → c < t.tk.length → d + t.nest ≤ 40 → m = 1 ∨ t.comp = false → Cut t.tk c i (fun l => binR l i d m) t.lev) := by
  have zero : ∀ (ts : TL) i d n, Cut ts 0 i (fun l => opdR l i d) n := fun ts i d n =>
    ⟨.bad i 7, .inl rfl, fun l rest hs hi hd => hs.opd (by simpa using hd) hi d⟩
  have wrap : ∀ t : Tr, t.ok → t.lev ≤ 20 → (∀ i d c m, 1 ≤ m → c < t.tk.length → d + t.nest ≤ 40 → m = 1 ∨ t.comp = false → Cut t.tk c i (fun l => binR l i d m) t.lev) → t.comp = true →
      ∀ i d c, c < (parT t.comp t.tk).length → d + t.nest + 1 ≤ 40 → Cut (parT t.comp t.tk) c i (fun l => opdR l i d) t.lev := by
    intro t hok hlev hb hcm i d c hc hd
    rw [hcm, parT, if_pos rfl] at hc ⊢
    cases c with
    | zero => exact zero _ _ _ _
    | succ c =>
      simp only [List.length_cons, List.length_append, List.length_nil] at hc
      refine ⟨.bad (i + (c + 1)) 7, .inl rfl, fun l rest hs hi hl => ?_⟩
      rw [List.take_succ_cons, List.cons_append] at hl
      obtain ⟨h1, h2, h3⟩ := tk_at hl
      show opdR l i d = _
      rw [opdR_par h1 d hi (by omega)]
      have he : i + 1 + c = i + (c + 1) := by omega
      by_cases hlt : c < t.tk.length
      · rw [take_short (by omega)] at h3
        obtain ⟨r, hr, hf⟩ := hb (i + 1) (d + 1) c 1 (by omega) hlt (by omega) (.inl rfl)
        have hf := hf l rest hs (by omega) h3
        simp only at hf
        rw [hf]
        have hk : l.drop (i + 1 + c) = rest := by
          have := drop_add h3
          rwa [List.length_take, Nat.min_eq_left (by omega)] at this
        rcases hr with rfl | ⟨e, rfl, _, _⟩
        · simp only [Res.bind, he]
        · simp only [Res.bind, he]
          rw [he] at hk
          rw [if_neg (hs.no hk (by simp) (by decide))]
      · obtain rfl : c = t.tk.length := by omega
        rw [take_long (Nat.le_refl _), Nat.sub_self, List.take_zero, List.append_nil] at h3
        have hk := drop_add h3
        have := (parse_tree l t hok hlev).2 (i + 1) (d + 1) rest 1 (by omega) h3 (by omega) (.inl rfl) (hs.endB hk) (hs.no hk (by simp) (by decide))
        rw [this]
        simp only [Res.bind]
        rw [if_neg (hs.no hk (by simp) (by decide)), he]
  have plain : ∀ t : Tr, t.comp = false → (∀ i d c, c < (parT t.comp t.tk).length → d + t.nest + 1 ≤ 41 → Cut (parT t.comp t.tk) c i (fun l => opdR l i d) t.lev) →
      ∀ i d c m, 1 ≤ m → c < t.tk.length → d + t.nest ≤ 40 → m = 1 ∨ t.comp = false → Cut t.tk c i (fun l => binR l i d m) t.lev := by
    intro t hcm ho i d c m hm hc hd _
    have e : parT t.comp t.tk = t.tk := by rw [hcm]; rfl
    rw [e] at ho
    obtain ⟨r, hr, hf⟩ := ho i d c hc (by omega)
    refine ⟨r, hr, fun l rest hs hi hl => ?_⟩
    have hf := hf l rest hs hi hl
    simp only at hf ⊢
    rw [binR_eq l i d m hm hi, hf]
    have hk : l.drop (i + c) = rest := by
      have := drop_add hl
      rwa [List.length_take, Nat.min_eq_left (by omega)] at this
    rcases hr with rfl | ⟨e, rfl, _, _⟩
    · rfl
    · exact endB_lop (hs.endB hk) _ _ _ hm
  induction t with
  | num n =>
    intro hok _
    have ho : ∀ i d c, c < (parT (Tr.num n).comp (Tr.num n).tk).length → d + (Tr.num n).nest + 1 ≤ 41 → Cut (parT (Tr.num n).comp (Tr.num n).tk) c i (fun l => opdR l i d) (Tr.num n).lev := by
      intro i d c hc _
      obtain rfl : c = 0 := by simp [parT, Tr.comp, Tr.tk] at hc; omega
      exact zero _ _ _ _
    exact ⟨fun i d c hc hd => ho i d c hc (by omega), plain _ rfl ho⟩
  | bool b =>
    intro hok _
    have ho : ∀ i d c, c < (parT (Tr.bool b).comp (Tr.bool b).tk).length → d + (Tr.bool b).nest + 1 ≤ 41 → Cut (parT (Tr.bool b).comp (Tr.bool b).tk) c i (fun l => opdR l i d) (Tr.bool b).lev := by
      intro i d c hc _
      obtain rfl : c = 0 := by simp [parT, Tr.comp, Tr.tk] at hc; omega
      exact zero _ _ _ _
    exact ⟨fun i d c hc hd => ho i d c hc (by omega), plain _ rfl ho⟩
  | var s =>
    intro hok _
    have ho : ∀ i d c, c < (parT (Tr.var s).comp (Tr.var s).tk).length → d + (Tr.var s).nest + 1 ≤ 41 → Cut (parT (Tr.var s).comp (Tr.var s).tk) c i (fun l => opdR l i d) (Tr.var s).lev := by
      intro i d c hc _
      obtain rfl : c = 0 := by simp [parT, Tr.comp, Tr.tk] at hc; omega
      exact zero _ _ _ _
    exact ⟨fun i d c hc hd => ho i d c hc (by omega), plain _ rfl ho⟩
  | len s =>
    intro hok _
    have hn : S3.nameB s = true := hok
    have ho : ∀ i d c, c < (parT (Tr.len s).comp (Tr.len s).tk).length → d + (Tr.len s).nest + 1 ≤ 41 → Cut (parT (Tr.len s).comp (Tr.len s).tk) c i (fun l => opdR l i d) (Tr.len s).lev := by
      intro i d c hc _
      have hc : c < 4 := by simpa [parT, Tr.comp, Tr.tk] using hc
      cases c with
      | zero => exact zero _ _ _ _
      | succ c =>
        refine ⟨.bad (i + (c + 1)) 7, .inl rfl, fun l rest hs hi hl => ?_⟩
        obtain ⟨h1, h2, h3⟩ := tk_at (x := (3, [108, 101, 110])) (r := ([tOpen, (1, s), tShut] : TL).take c ++ rest) hl
        show opdR l i d = _
        rw [opdR_key h1 d hi]
        unfold keyR lenR
        rw [h1]
        simp only
        rw [if_neg (by decide), if_neg (by decide), if_pos trivial]
        match c, hc with
        | 0, _ => rw [if_neg (hs.no (i := i + 1) (by simpa using h3) (by simp) (by decide))]
        | 1, _ =>
          have h3 : l.drop (i + 1) = (4, [40]) :: rest := h3
          obtain ⟨h4, h5, h6⟩ := tk_at h3
          rw [if_pos (sg_at h3), if_neg]
          rcases hs.tk h6 with h7 | h7 | h7 <;> rw [h7] <;> simp [nmTok]
        | 2, _ =>
          have h3 : l.drop (i + 1) = (4, [40]) :: (1, s) :: rest := h3
          obtain ⟨h4, h5, h6⟩ := tk_at h3
          obtain ⟨h7, h8, h9⟩ := tk_at h6
          rw [if_pos (sg_at h3), if_pos (by rw [h7]; simp [nmTok, hn]), if_neg (hs.no h9 (by simp) (by decide))]
    exact ⟨fun i d c hc hd => ho i d c hc (by omega), plain _ rfl ho⟩
  | un op a ih =>
    intro hok hlev
    obtain ⟨hop, hoka⟩ := hok
    simp only [Tr.lev] at hlev
    obtain ⟨iho, ihb⟩ := ih hoka (by omega)
    have hb : ∀ i d c m, 1 ≤ m → c < (Tr.un op a).tk.length → d + (Tr.un op a).nest ≤ 40 → m = 1 ∨ (Tr.un op a).comp = false → Cut (Tr.un op a).tk c i (fun l => binR l i d m) (Tr.un op a).lev := by
      intro i d c m hm hc hd _
      cases c with
      | zero => exact ⟨.bad i 7, .inl rfl, fun l rest hs hi hl => hs.bin (by simpa using hl) hi d m hm⟩
      | succ c =>
        simp only [Tr.tk, List.length_cons] at hc
        simp only [Tr.nest] at hd
        obtain ⟨r, hr, hf⟩ := iho (i + 1) (d + 1) c (by omega) (by omega)
        have he : i + 1 + c = i + (c + 1) := by omega
        rw [he] at hr
        refine ⟨r.bind fun e n => .ok ⟨4, op, 0, [], [e]⟩ n, ?_, fun l rest hs hi hl => ?_⟩
        · rcases hr with rfl | ⟨e, rfl, h1, h2⟩
          · exact .inl rfl
          · exact .inr ⟨_, rfl, gd_one (fit_un hop _) rfl h1, by simpa [Tr.tk] using h2⟩
        · have hl : l.drop i = (4, signB op) :: ((parT a.comp a.tk).take c ++ rest) := hl
          obtain ⟨h1, h2, h3⟩ := tk_at hl
          have hf := hf l rest hs (by omega) h3
          have hk : l.drop (i + (c + 1)) = rest := by
            have := drop_add h3
            rwa [List.length_take, Nat.min_eq_left (by omega), he] at this
          simp only at hf ⊢
          rw [binR_eq l i d m hm hi, opdR_un hop h1 d hi (by omega), hf]
          rcases hr with rfl | ⟨e, rfl, h4, h5⟩
          · rfl
          · simp only [Res.bind, madeR]
            rw [if_pos ((gd_one (fit_un hop e) rfl h4).exB hlev)]
            simp only
            exact endB_lop (hs.endB hk) _ _ _ hm
    exact ⟨wrap _ ⟨hop, hoka⟩ hlev hb rfl, hb⟩
  | idx s a ih =>
    intro hok hlev
    obtain ⟨hn, hoka⟩ := hok
    simp only [Tr.lev] at hlev
    obtain ⟨iho, ihb⟩ := ih hoka (by omega)
    have ho : ∀ i d c, c < (parT (Tr.idx s a).comp (Tr.idx s a).tk).length → d + (Tr.idx s a).nest + 1 ≤ 41 → Cut (parT (Tr.idx s a).comp (Tr.idx s a).tk) c i (fun l => opdR l i d) (Tr.idx s a).lev := by
      intro i d c hc hd
      have et : parT (Tr.idx s a).comp (Tr.idx s a).tk = (1, s) :: (4, [91]) :: (a.tk ++ [(4, [93])]) := rfl
      rw [et] at hc ⊢
      simp only [Tr.nest] at hd
      simp only [List.length_cons, List.length_append, List.length_nil] at hc
      match c with
      | 0 => exact zero _ _ _ _
      | 1 =>
        refine ⟨.ok ⟨3, 0, 0, s, []⟩ (i + 1), .inr ⟨_, rfl, (gd_leaf (fit_var hn) rfl).mono (by simp only [Tr.lev]; omega), rfl⟩, fun l rest hs hi hl => ?_⟩
        have hl : l.drop i = (1, s) :: rest := hl
        obtain ⟨h1, h2, h3⟩ := tk_at hl
        show opdR l i d = _
        rw [opdR_name h1 hn d hi, if_neg (hs.no h3 (by simp) (by decide))]
      | c + 2 =>
        refine ⟨.bad (i + (c + 2)) 7, .inl rfl, fun l rest hs hi hl => ?_⟩
        have hl : l.drop i = (1, s) :: (4, [91]) :: ((a.tk ++ [(4, [93])]).take c ++ rest) := hl
        obtain ⟨h1, h2, h3⟩ := tk_at hl
        obtain ⟨h4, h5, h6⟩ := tk_at h3
        have h6 : l.drop (i + 2) = _ := h6
        have he : i + 2 + c = i + (c + 2) := by omega
        show opdR l i d = _
        rw [opdR_name h1 hn d hi, if_pos (sg_at h3), if_neg (by omega)]
        by_cases hlt : c < a.tk.length
        · rw [take_short (by omega)] at h6
          obtain ⟨r, hr, hf⟩ := ihb (i + 2) (d + 1) c 1 (by omega) hlt (by omega) (.inl rfl)
          have hf := hf l rest hs (by omega) h6
          simp only at hf
          rw [hf]
          have hk : l.drop (i + 2 + c) = rest := by
            have := drop_add h6
            rwa [List.length_take, Nat.min_eq_left (by omega)] at this
          rcases hr with rfl | ⟨e, rfl, _, _⟩
          · simp only [Res.bind, he]
          · simp only [Res.bind, he]
            rw [he] at hk
            rw [if_neg (hs.no hk (by simp) (by decide))]
        · obtain rfl : c = a.tk.length := by omega
          rw [take_long (Nat.le_refl _), Nat.sub_self, List.take_zero, List.append_nil] at h6
          have hk := drop_add h6
          have := (parse_tree l a hoka (by omega)).2 (i + 2) (d + 1) rest 1 (by omega) h6 (by omega) (.inl rfl) (hs.endB hk) (hs.no hk (by simp) (by decide))
          rw [this]
          simp only [Res.bind]
          rw [if_neg (hs.no hk (by simp) (by decide)), he]
    exact ⟨fun i d c hc hd => ho i d c hc (by omega), plain _ rfl ho⟩
  | bin op a b iha ihb =>
    intro hok hlev
    obtain ⟨hop, hoka, hokb⟩ := hok
    simp only [Tr.lev] at hlev
    obtain ⟨iho, _⟩ := iha hoka (by omega)
    obtain ⟨ihp, _⟩ := ihb hokb (by omega)
    obtain ⟨q1, q2, q3, q4⟩ := signB_bin hop
    have hnb : signB op ≠ [91] := by
      intro e; rw [e] at q2; exact absurd q2 (by decide)
    have hb : ∀ i d c m, 1 ≤ m → c < (Tr.bin op a b).tk.length → d + (Tr.bin op a b).nest ≤ 40 → m = 1 ∨ (Tr.bin op a b).comp = false → Cut (Tr.bin op a b).tk c i (fun l => binR l i d m) (Tr.bin op a b).lev := by
      intro i d c m hm hc hd hm1
      obtain rfl : m = 1 := by
        rcases hm1 with h0 | h0
        · exact h0
        · cases h0
      have et : (Tr.bin op a b).tk = parT a.comp a.tk ++ ((4, signB op) :: parT b.comp b.tk) := rfl
      rw [et] at hc ⊢
      simp only [Tr.nest] at hd
      simp only [List.length_cons, List.length_append] at hc
      by_cases hca : c < (parT a.comp a.tk).length
      · obtain ⟨r, hr, hf⟩ := iho i d c hca (by omega)
        refine ⟨r, ?_, fun l rest hs hi hl => ?_⟩
        · rcases hr with rfl | ⟨e, rfl, h1, h2⟩
          · exact .inl rfl
          · exact .inr ⟨_, rfl, h1.mono (by simp only [Tr.lev]; omega), by rw [List.getElem?_append_left hca]; exact h2⟩
        · rw [take_short (by omega)] at hl
          have hf := hf l rest hs hi hl
          have hk : l.drop (i + c) = rest := by
            have := drop_add hl
            rwa [List.length_take, Nat.min_eq_left (by omega)] at this
          simp only at hf ⊢
          rw [binR_eq l i d 1 hm hi, hf]
          rcases hr with rfl | ⟨e, rfl, _, _⟩
          · rfl
          · exact endB_lop (hs.endB hk) _ _ _ hm
      · obtain ⟨c, rfl⟩ : ∃ x, c = (parT a.comp a.tk).length + x := ⟨c - (parT a.comp a.tk).length, by omega⟩
        cases c with
        | zero =>
          refine ⟨.ok a.ex (i + (parT a.comp a.tk).length), .inr ⟨_, rfl, (a.gd hoka).mono (by simp only [Tr.lev]; omega), by rw [List.getElem?_append_right (by omega)]; simp⟩, fun l rest hs hi hl => ?_⟩
          rw [take_long (by omega)] at hl
          have hl : l.drop i = parT a.comp a.tk ++ rest := by rw [hl]; simp
          have hk := drop_add hl
          have := (parse_tree l a hoka (by omega)).1 i d rest hl (by omega) (hs.no hk (by simp) (by decide))
          simp only
          rw [binR_eq l i d 1 hm hi, this]
          exact endB_lop (hs.endB hk) _ _ _ hm
        | succ c =>
          obtain ⟨r, hr, hf⟩ := ihp (i + (parT a.comp a.tk).length + 1) d c (by omega) (by omega)
          have he : i + (parT a.comp a.tk).length + 1 + c = i + ((parT a.comp a.tk).length + (c + 1)) := by omega
          rw [he] at hr
          refine ⟨r.bind fun e n => .ok ⟨5, op, 0, [], [a.ex, e]⟩ n, ?_, fun l rest hs hi hl => ?_⟩
          · rcases hr with rfl | ⟨e, rfl, h1, h2⟩
            · exact .inl rfl
            · refine .inr ⟨_, rfl, gd_two (fit_bin hop _ _) rfl (a.gd hoka) h1, ?_⟩
              rw [List.getElem?_append_right (by omega), show (parT a.comp a.tk).length + (c + 1) - (parT a.comp a.tk).length = c + 1 by omega]
              exact h2
          · rw [take_long (by omega), show (parT a.comp a.tk).length + (c + 1) - (parT a.comp a.tk).length = c + 1 by omega, List.take_succ_cons] at hl
            have hl : l.drop i = parT a.comp a.tk ++ ((4, signB op) :: ((parT b.comp b.tk).take c ++ rest)) := by rw [hl]; simp
            have h1 := drop_add hl
            obtain ⟨h2, h3, h4⟩ := tk_at h1
            have sop := sg_at h1
            have ha := (parse_tree l a hoka (by omega)).1 i d _ hl (by omega) (by rw [sop]; exact hnb)
            have hf := hf l rest hs (by omega) h4
            have hk : l.drop (i + ((parT a.comp a.tk).length + (c + 1))) = rest := by
              have := drop_add h4
              rwa [List.length_take, Nat.min_eq_left (by omega), he] at this
            have hpos : 1 ≤ i + (parT a.comp a.tk).length := by
              have := opdR_within l i d hi; rw [ha] at this; simp only [Res.within] at this; omega
            simp only at hf ⊢
            rw [binR_eq l i d 1 hm hi, ha]
            simp only [Res.bind]
            rw [lopR_eq l _ _ d 1 hpos (by omega) (by rw [sop]; omega), sop, binR_eq l _ d _ (by omega) (by omega), hf]
            rcases hr with rfl | ⟨e, rfl, h5, h6⟩
            · rfl
            · simp only [Res.bind]
              rw [endB_lop (hs.endB hk) _ _ _ (by omega)]
              simp only [madeR]
              rw [show (opB (signB op)).1 = op by rw [q1], if_pos ((gd_two (fit_bin hop a.ex e) rfl (a.gd hoka) h5).exB (by omega))]
              simp only
              exact endB_lop (hs.endB hk) _ _ _ (by omega)
    exact ⟨wrap _ ⟨hop, hoka, hokb⟩ (by simp only [Tr.lev]; omega) hb rfl, hb⟩
end Go.Proofs.YtoldhocdfkndbaaGreatDoor.E5
