/-
  Lists of trees with commas between them: what a scan of their text gives, and what is read. No program is named here.
-/
import Derived.Test.YtlhifbckmknijaaGreatDoorEDraft
import Derived.Test.YtlhifbckmknijaaGreatDoorTForm
namespace Go.Proofs.YtlhifbckmknijaaGreatDoor.E5
open Go Go.Proofs.YtlhifbckmknijaaGreatDoor Go.Proofs.YtlhifbckmknijaaGreatDoor.L4
open Go.Proofs.YtlhifbckmknijaaGreatDoor.E6 (OkT restT argsT list_ok list_cut tComma StopF parse_sg restT_two)

theorem itl_app (a b : TL) : itl (a ++ b) = itl a ++ itl b := by simp [itl]
theorem fol_consI {x : Int × List UInt8} {g : List UInt8} {M : List It} (h : folB x.1 x.2 (tx M []) = true) (hl : FolL M) : FolL (⟨g, x.1, x.2⟩ :: M) := ⟨h, hl⟩
theorem nk_signI {s : List UInt8} {M : List It} (h : ∃ c r, s = c :: r ∧ L4.okC c = false) : Nk (tx (⟨[], 4, s⟩ :: M) []) := by
  obtain ⟨c, r, rfl, hc⟩ := h
  intro c' r' e
  simp only [tx, List.nil_append, List.cons_append] at e
  cases e
  exact hc
theorem tx_itl (l : TL) (M : List It) : tx (itl l ++ M) [] = tb l ++ tx M [] := by rw [tx_append, tx_last, itl_tx]
theorem tr_folI (t : Tr) : t.ok → ∀ M : List It, FolL M → Nk (tx M []) → FolL (itl t.tk ++ M) := by
  have par : ∀ (t : Tr), (∀ M : List It, FolL M → Nk (tx M []) → FolL (itl t.tk ++ M)) → ∀ M : List It, FolL M → Nk (tx M []) → FolL (itl (parT t.comp t.tk) ++ M) := by
    intro t ih M hm hn
    cases hc : t.comp with
    | false => exact ih M hm hn
    | true =>
      have e : itl (parT true t.tk) ++ M = ⟨[], 4, [40]⟩ :: (itl t.tk ++ (⟨[], 4, [41]⟩ :: M)) := by simp [parT, itl, tOpen, tShut]
      rw [e]
      exact fol_consI (x := (4, [40])) (fol_sign (by simp)) (ih _ (fol_consI (x := (4, [41])) (fol_sign (by simp)) hm) (nk_signI ⟨41, [], rfl, by decide⟩))
  induction t with
  | num n => intro _ M hm hn; exact fol_consI (x := (2, _)) (fol_word (by simp) hn) hm
  | bool b => intro _ M hm hn; exact fol_consI (x := (3, _)) (fol_word (by simp) hn) hm
  | len s =>
    intro _ M hm hn
    exact fol_consI (x := (3, _)) (fol_word (by simp) (nk_signI ⟨40, [], rfl, by decide⟩)) (fol_consI (x := (4, [40])) (fol_sign (by simp)) (fol_consI (x := (1, s)) (fol_word (by simp) (nk_signI ⟨41, [], rfl, by decide⟩)) (fol_consI (x := (4, [41])) (fol_sign (by simp)) hm)))
  | var s => intro _ M hm hn; exact fol_consI (x := (1, _)) (fol_word (by simp) hn) hm
  | un op a ih =>
    intro h M hm hn
    refine fol_consI (x := (4, signB op)) (fol_sign fun _ => ?_) (par a (ih h.2) M hm hn)
    show Hd (tx (itl (parT a.comp a.tk) ++ M) [])
    rw [tx_itl, tb_par, tr_tb]
    exact par_hd a h.2 _
  | idx s a ih =>
    intro h M hm hn
    have e : itl (Tr.idx s a).tk ++ M = ⟨[], 1, s⟩ :: ⟨[], 4, [91]⟩ :: (itl a.tk ++ (⟨[], 4, [93]⟩ :: M)) := by simp [Tr.tk, itl]
    rw [e]
    exact fol_consI (x := (1, s)) (fol_word (by simp) (nk_signI ⟨91, [], rfl, by decide⟩)) (fol_consI (x := (4, [91])) (fol_sign (by simp)) (ih h.2 _ (fol_consI (x := (4, [93])) (fol_sign (by simp)) hm) (nk_signI ⟨93, [], rfl, by decide⟩)))
  | bin op a b iha ihb =>
    intro h M hm hn
    have e : itl (Tr.bin op a b).tk ++ M = itl (parT a.comp a.tk) ++ (⟨[], 4, signB op⟩ :: (itl (parT b.comp b.tk) ++ M)) := by simp [Tr.tk, itl]
    rw [e]
    refine par a (iha h.2.1) _ (fol_consI (x := (4, signB op)) (fol_sign fun _ => ?_) (par b (ihb h.2.2) M hm hn)) (nk_signI (sign_tok (by have := h.1; omega)).2)
    rw [tx_itl, tb_par, tr_tb]
    exact par_hd b h.2.2 _
theorem tok_comma : IsTok 4 [44] := ⟨by decide +kernel, by decide⟩

/-! ### the list behind its parenthesis -/
/-- A space ahead of the first. -/
def spI : List It → List It
  | [] => []
  | i :: l => ⟨32 :: i.g, i.k, i.t⟩ :: l
theorem tr_cons (t : Tr) (h : t.ok) : ∃ x r, t.tk = x :: r := by
  obtain ⟨x, r, e, _⟩ := E6.tk_head t h
  exact ⟨x, r, e⟩
theorem sp_fol {L : List It} (h : FolL L) : FolL (spI L) := by
  cases L with
  | nil => exact h
  | cons i l => exact h
theorem sp_tx {L : List It} (h : L ≠ []) : tx (spI L) [] = 32 :: tx L [] := by
  cases L with
  | nil => exact absurd rfl h
  | cons i l => simp [spI, tx]
theorem sp_map (L : List It) : (spI L).map (fun t => (t.k, t.t)) = L.map fun t => (t.k, t.t) := by cases L <;> rfl
theorem gap_sp {g : List UInt8} (h : GapOk g) : GapOk (32 :: g) := fun x => by
  rw [List.cons_append, skN, if_pos (by decide), h x, List.length_cons]; omega
theorem sp_ok {L : List It} (h : ∀ i ∈ L, GapOk i.g ∧ IsTok i.k i.t) : ∀ i ∈ spI L, GapOk i.g ∧ IsTok i.k i.t := by
  cases L with
  | nil => exact h
  | cons i l =>
    intro x hx
    simp only [spI, List.mem_cons] at hx
    rcases hx with rfl | hx
    · exact ⟨gap_sp (h i (by simp)).1, (h i (by simp)).2⟩
    · exact h x (by simp [hx])
/-- The trees with commas and spaces, and E behind them. -/
def resI (E : List It) : List Tr → List It
  | [] => E
  | [t] => itl t.tk ++ E
  | t :: ts => itl t.tk ++ (⟨[], 4, [44]⟩ :: spI (resI E ts))
theorem resI_two (E : List It) (t u : Tr) (ts : List Tr) : resI E (t :: u :: ts) = itl t.tk ++ (⟨[], 4, [44]⟩ :: spI (resI E (u :: ts))) := rfl
theorem resI_fol {E : List It} (hE : FolL E) (hn : Nk (tx E [])) : ∀ ts : List Tr, (∀ t ∈ ts, t.ok) → FolL (resI E ts) := by
  intro ts
  induction ts with
  | nil => intro _; exact hE
  | cons t ts ih =>
    intro h
    cases ts with
    | nil => exact tr_folI t (h t (by simp)) E hE hn
    | cons u ts =>
      rw [resI_two]
      exact tr_folI t (h t (by simp)) _ (fol_consI (x := (4, [44])) (fol_sign (by simp)) (sp_fol (ih fun x hx => h x (by simp [hx])))) (nk_signI ⟨44, [], rfl, by decide⟩)
theorem itl_ok {t : Tr} (h : t.ok) : ∀ i ∈ itl t.tk, GapOk i.g ∧ IsTok i.k i.t := fun i hi => by
  obtain ⟨x, hx, rfl⟩ := List.mem_map.1 hi
  exact ⟨gap_nil, tk_toks t h x hx⟩
theorem resI_ok {E : List It} (hE : ∀ i ∈ E, GapOk i.g ∧ IsTok i.k i.t) : ∀ ts : List Tr, (∀ t ∈ ts, t.ok) → ∀ i ∈ resI E ts, GapOk i.g ∧ IsTok i.k i.t := by
  intro ts
  induction ts with
  | nil => intro _; exact hE
  | cons t ts ih =>
    intro h
    cases ts with
    | nil =>
      intro i hi
      rcases List.mem_append.1 hi with hi | hi
      · exact itl_ok (h t (by simp)) i hi
      · exact hE i hi
    | cons u ts =>
      intro i hi
      rw [resI_two] at hi
      rcases List.mem_append.1 hi with hi | hi
      · exact itl_ok (h t (by simp)) i hi
      · rcases List.mem_cons.1 hi with rfl | hi
        · exact ⟨gap_nil, tok_comma⟩
        · exact sp_ok (ih fun x hx => h x (by simp [hx])) i hi
/-- The parts joined. -/
def joinB : List (List UInt8) → List UInt8
  | [] => []
  | [p] => p
  | p :: ps => p ++ ([44, 32] ++ joinB ps)
theorem resI_ne {E : List It} (ts : List Tr) (h : ∀ t ∈ ts, t.ok) (h0 : ts ≠ []) : resI E ts ≠ [] := by
  cases ts with
  | nil => exact absurd rfl h0
  | cons t ts =>
    obtain ⟨x, r, e⟩ := tr_cons t (h t (by simp))
    cases ts with
    | nil => simp [resI, itl, e]
    | cons u ts => rw [resI_two]; simp [itl, e]
theorem resI_tx (E : List It) : ∀ ts : List Tr, (∀ t ∈ ts, t.ok) → tx (resI E ts) [] = joinB (ts.map Tr.tx) ++ tx E [] := by
  intro ts
  induction ts with
  | nil => intro _; rfl
  | cons t ts ih =>
    intro h
    cases ts with
    | nil => rw [resI, tx_itl, tr_tb]; rfl
    | cons u ts =>
      have ih := ih fun x hx => h x (by simp [hx])
      rw [resI_two, tx_itl, tr_tb]
      show t.tx ++ ([] ++ ([44] ++ tx (spI (resI E (u :: ts))) [])) = _
      rw [sp_tx (resI_ne _ (fun x hx => h x (by simp [hx])) (by simp)), ih]
      simp [joinB]
theorem resI_map (E : List It) : ∀ ts : List Tr, (resI E ts).map (fun t => (t.k, t.t)) = (match ts with
    | [] => E.map fun t => (t.k, t.t)
    | _ => (restT ts).dropLast ++ E.map fun t => (t.k, t.t)) := by
  have hitl : ∀ l : TL, (itl l).map (fun t => (t.k, t.t)) = l := fun l => by
    unfold itl
    rw [List.map_map]
    exact List.map_id' l
  intro ts
  induction ts with
  | nil => rfl
  | cons t ts ih =>
    cases ts with
    | nil => simp [resI, restT, hitl]
    | cons u ts =>
      rw [resI_two, List.map_append, List.map_cons, sp_map, ih, hitl, restT_two]
      have hne : restT (u :: ts) ≠ [] := by have := E6.restT_pos (u :: ts); intro e; rw [e] at this; simp at this
      rw [List.dropLast_append_of_ne_nil (by simp), List.dropLast_cons_of_ne_nil hne]
      simp [tComma]
theorem restT_last (ts : List Tr) : restT ts = (restT ts).dropLast ++ [tShut] := by
  induction ts with
  | nil => rfl
  | cons t ts ih =>
    cases ts with
    | nil => simp [restT]
    | cons u ts =>
      have hne : restT (u :: ts) ≠ [] := by have := E6.restT_pos (u :: ts); intro e; rw [e] at this; simp at this
      rw [restT_two, List.dropLast_append_of_ne_nil (by simp), List.dropLast_cons_of_ne_nil hne, List.append_assoc, List.cons_append, ← ih]
theorem tlS_its {L : List It} (hok : ∀ i ∈ L, GapOk i.g ∧ IsTok i.k i.t) (hf : FolL L) : tlS (tx L []) = L.map fun t => (t.k, t.t) := by
  have h := scan_fol hok hf
  have e : ∀ (l : List It) (o : Nat), tlOf (wt o l) = l.map fun t => (t.k, t.t) := by
    intro l
    induction l with
    | nil => intro o; rfl
    | cons x l ih => intro o; simp only [List.map_cons, wt, tlOf] at *; rw [ih]
  unfold tlS
  rw [h]
  exact e L 0
/-- "(" the parts, joined ")". -/
theorem tlS_list {ts : List Tr} (h : ∀ t ∈ ts, t.ok) : tlS (40 :: (joinB (ts.map Tr.tx) ++ [41])) = argsT ts := by
  have hE : FolL [(⟨[], 4, [41]⟩ : It)] := ⟨rfl, trivial⟩
  have hn : Nk (tx [(⟨[], 4, [41]⟩ : It)] []) := nk_signI ⟨41, [], rfl, by decide⟩
  have hokE : ∀ i ∈ [(⟨[], 4, [41]⟩ : It)], GapOk i.g ∧ IsTok i.k i.t := fun i hi => by
    obtain rfl := List.mem_singleton.1 hi
    exact ⟨gap_nil, par_toks.2.1⟩
  have h1 := tlS_its (L := ⟨[], 4, [40]⟩ :: resI [⟨[], 4, [41]⟩] ts) (fun i hi => by
    rcases List.mem_cons.1 hi with rfl | hi
    · exact ⟨gap_nil, par_toks.1⟩
    · exact resI_ok hokE ts h i hi) (fol_consI (x := (4, [40])) (fol_sign (by simp)) (resI_fol hE hn ts h))
  have e1 : tx (⟨[], 4, [40]⟩ :: resI [⟨[], 4, [41]⟩] ts) [] = 40 :: (joinB (ts.map Tr.tx) ++ [41]) := by
    show [] ++ ([40] ++ tx (resI [⟨[], 4, [41]⟩] ts) []) = _
    rw [resI_tx _ ts h]
    rfl
  rw [e1] at h1
  rw [h1, List.map_cons, resI_map]
  unfold argsT
  rw [restT_last ts]
  cases ts with
  | nil => rfl
  | cons t ts => simp [tOpen, tShut]
/-- .. with a comma more. -/
def commaT (ts : List Tr) : TL := tOpen :: ((restT ts).dropLast ++ [tComma, tShut])
theorem tlS_comma {ts : List Tr} (h : ∀ t ∈ ts, t.ok) : tlS (40 :: (joinB (ts.map Tr.tx) ++ [44, 41])) = commaT ts := by
  have hE : FolL [(⟨[], 4, [44]⟩ : It), ⟨[], 4, [41]⟩] := ⟨rfl, rfl, trivial⟩
  have hn : Nk (tx [(⟨[], 4, [44]⟩ : It), ⟨[], 4, [41]⟩] []) := nk_signI ⟨44, [], rfl, by decide⟩
  have hokE : ∀ i ∈ [(⟨[], 4, [44]⟩ : It), ⟨[], 4, [41]⟩], GapOk i.g ∧ IsTok i.k i.t := fun i hi => by
    simp only [List.mem_cons, List.not_mem_nil, or_false] at hi
    rcases hi with rfl | rfl
    · exact ⟨gap_nil, tok_comma⟩
    · exact ⟨gap_nil, par_toks.2.1⟩
  have h1 := tlS_its (L := ⟨[], 4, [40]⟩ :: resI [⟨[], 4, [44]⟩, ⟨[], 4, [41]⟩] ts) (fun i hi => by
    rcases List.mem_cons.1 hi with rfl | hi
    · exact ⟨gap_nil, par_toks.1⟩
    · exact resI_ok hokE ts h i hi) (fol_consI (x := (4, [40])) (fol_sign (by simp)) (resI_fol hE hn ts h))
  have e1 : tx (⟨[], 4, [40]⟩ :: resI [⟨[], 4, [44]⟩, ⟨[], 4, [41]⟩] ts) [] = 40 :: (joinB (ts.map Tr.tx) ++ [44, 41]) := by
    show [] ++ ([40] ++ tx (resI [⟨[], 4, [44]⟩, ⟨[], 4, [41]⟩] ts) []) = _
    rw [resI_tx _ ts h]
    rfl
  rw [e1] at h1
  rw [h1, List.map_cons, resI_map]
  unfold commaT
  cases ts with
  | nil => rfl
  | cons t ts => simp [tOpen, tShut, tComma]

/-! ### what is read of them -/
theorem lst_comma {l : TL} : ∀ (ts : List Tr) (acc : List Ex) (i f : Nat), ts ≠ [] → (∀ t ∈ ts, OkT t) → ts.length < f → l.drop i = (restT ts).dropLast ++ [tComma, tShut] → lstR l 0 f acc i = .bad (i + (restT ts).dropLast.length + 1) 7 := by
  intro ts
  induction ts with
  | nil => intro acc i f h; exact absurd rfl h
  | cons t ts ih =>
    intro acc i f _ hok hf hd
    obtain ⟨f, rfl⟩ : ∃ k, f = k + 1 := ⟨f - 1, by omega⟩
    have ht := hok t (by simp)
    cases ts with
    | nil =>
      have hdl : (restT [t]).dropLast = t.tk := by simp [restT]
      rw [hdl] at hd ⊢
      obtain ⟨h1, h2, h3⟩ := parse_sg ht (s := [44]) (post := [tShut]) hd (by decide) (by decide)
      rw [lstR, h1]
      simp only
      rw [if_pos h3]
      have h4 := (tk_at h2).2.2
      obtain ⟨h5, h6, h7⟩ := tk_at h4
      obtain ⟨f, rfl⟩ : ∃ k, f = k + 1 := ⟨f - 1, by simp at hf; omega⟩
      rw [lstR]
      have h8 : parseR l (i + t.tk.length + 1) 0 = .bad (i + t.tk.length + 1) 7 := by
        have hs : sgAt l (i + t.tk.length + 1) = [41] := sg_at h4
        rw [parseR_is, binR_eq l _ 0 1 (by omega) (by omega), opdR_eq l _ 0 (by omega), if_neg (by rw [h5]; simp [tShut]), if_neg (by rw [h5]; simp [tShut]), if_neg (by rw [h5]; simp [tShut]), hs, if_neg (by decide), if_neg (by decide), if_neg (by decide)]
        rfl
      rw [h8]
    | cons u ts =>
      have hne : restT (u :: ts) ≠ [] := by have := E6.restT_pos (u :: ts); intro e; rw [e] at this; simp at this
      have hdl : (restT (t :: u :: ts)).dropLast = t.tk ++ tComma :: (restT (u :: ts)).dropLast := by
        rw [restT_two, List.dropLast_append_of_ne_nil (by simp), List.dropLast_cons_of_ne_nil hne]
      rw [hdl] at hd ⊢
      have hd : l.drop i = t.tk ++ (4, [44]) :: ((restT (u :: ts)).dropLast ++ [tComma, tShut]) := by rw [hd]; simp [tComma]
      obtain ⟨h1, h2, h3⟩ := parse_sg ht hd (by decide) (by decide)
      rw [lstR, h1]
      simp only
      rw [if_pos h3, ih _ (i + t.tk.length + 1) f (by simp) (fun x hx => hok x (by simp [hx])) (by simp at hf ⊢; omega) (tk_at h2).2.2]
      congr 1
      simp; omega
theorem comma_none : listR (commaT []) 0 0 = .bad 1 7 := by kernel_rfl
theorem comma_some {ts : List Tr} (h0 : ts ≠ []) (hok : ∀ t ∈ ts, OkT t) : listR (commaT ts) 0 0 = .bad (argsT ts).length 7 := by
  have hd : (commaT ts).drop 0 = (4, [40]) :: ((restT ts).dropLast ++ [tComma, tShut]) := rfl
  obtain ⟨h1, h2, h3⟩ := tk_at hd
  have hs := sg_at hd
  unfold listR
  rw [if_pos hs, if_neg]
  · rw [lst_comma ts [] (0 + 1) _ h0 hok (by have : (restT ts).dropLast.length + 3 = (commaT ts).length := by simp [commaT]; 
                                             have h9 : ts.length ≤ (restT ts).length := by
                                               clear hd h1 h2 h3 hs this h0 hok
                                               induction ts with
                                               | nil => simp
                                               | cons t ts ih =>
                                                 cases ts with
                                                 | nil => simp [restT]
                                                 | cons u ts => rw [restT_two]; simp at ih ⊢; omega
                                             simp at this; omega) h3]
    congr 1
    have := E6.restT_pos ts
    simp [argsT]; omega
  · intro e
    obtain ⟨t, ts, rfl⟩ : ∃ t r, ts = t :: r := by
      cases ts with
      | nil => exact absurd rfl h0
      | cons t r => exact ⟨t, r, rfl⟩
    obtain ⟨x, r, e1, e2⟩ := E6.tk_head t (hok t (by simp)).ok
    have h5 : ∃ r', (restT (t :: ts)).dropLast ++ [tComma, tShut] = x :: r' := by
      cases ts with
      | nil =>
        have hdl : (restT [t]).dropLast = t.tk := by simp [restT]
        rw [hdl, e1]
        exact ⟨r ++ [tComma, tShut], rfl⟩
      | cons u ts =>
        have hne : restT (u :: ts) ≠ [] := by have := E6.restT_pos (u :: ts); intro e; rw [e] at this; simp at this
        rw [restT_two, List.dropLast_append_of_ne_nil (by simp), List.dropLast_cons_of_ne_nil hne, e1]
        exact ⟨_, rfl⟩
    obtain ⟨r', h5⟩ := h5
    rw [h5] at h3
    have h6 := (tk_at h3).1
    unfold sgAt at e
    rw [h6] at e
    rcases e2 with h | h | ⟨h, _⟩ | ⟨h, h7⟩
    · rw [h] at e; simp at e
    · rw [h] at e; simp at e
    · rw [h] at e; simp at e
    · rw [if_pos h] at e; rw [e] at h7; revert h7; decide
/-- Without its parenthesis. -/
theorem front_some {ts : List Tr} (h : sgAt (restT ts) 0 ≠ [40]) : listR (restT ts) 0 0 = .bad 0 7 := by
  unfold listR
  rw [if_neg h]
theorem front_byte {t : Tr} {ts : List Tr} (hok : t.ok) (h : ∀ r, t.tx ≠ 40 :: r) : sgAt (restT (t :: ts)) 0 ≠ [40] := by
  intro e
  obtain ⟨x, r, e1⟩ := tr_cons t hok
  have h5 : ∃ r', restT (t :: ts) = x :: r' := by
    cases ts with
    | nil => exact ⟨r ++ [tShut], by simp [restT, e1]⟩
    | cons u ts => exact ⟨r ++ tComma :: restT (u :: ts), by rw [restT_two, e1]; rfl⟩
  obtain ⟨r', h5⟩ := h5
  have h6 : (restT (t :: ts)).drop 0 = x :: r' := h5
  unfold sgAt at e
  rw [(tk_at h6).1] at e
  have h7 : x.2 = [40] := by
    split at e
    · exact e
    · cases e
  apply h (tb r)
  rw [← tr_tb, e1, tb_cons, h7]
  rfl
end Go.Proofs.YtlhifbckmknijaaGreatDoor.E5
