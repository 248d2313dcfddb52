/-
  An expression's text as it is drawn, and what a scan of it gives; drafts. No program is named here.
-/
import Derived.Test.YtoldhocdfkndbaaGreatDoorETree
import Derived.Test.YtoldhocdfkndbaaGreatDoorEScan
namespace Go.Proofs.YtoldhocdfkndbaaGreatDoor.E5
open Go Go.Proofs.YtoldhocdfkndbaaGreatDoor Go.Proofs.YtoldhocdfkndbaaGreatDoor.L4

/-! ### tokens with no gaps between them -/
def itl (l : TL) : List It := l.map fun t => ⟨[], t.1, t.2⟩
def tb (l : TL) : List UInt8 := l.flatMap (·.2)
theorem tb_cons (x : Int × List UInt8) (l : TL) : tb (x :: l) = x.2 ++ tb l := by simp [tb]
theorem tb_app (a b : TL) : tb (a ++ b) = tb a ++ tb b := by simp [tb]
theorem itl_tx (l : TL) : tx (itl l) [] = tb l := by
  induction l with
  | nil => rfl
  | cons x l ih => rw [tb_cons, ← ih]; rfl
theorem wt_itl (l : TL) : ∀ o, tlOf (wt o (itl l)) = l := by
  induction l with
  | nil => intro o; rfl
  | cons x l ih => intro o; simp only [itl, List.map_cons, wt, tlOf] at *; rw [ih]
theorem tlS_of {l : TL} (hok : ∀ x ∈ l, IsTok x.1 x.2) (hf : FolL (itl l)) : tlS (tb l) = l := by
  have h := scan_fol (l := itl l) (fun i hi => by
    obtain ⟨x, hx, rfl⟩ := List.mem_map.1 hi
    exact ⟨gap_nil, hok x hx⟩) hf
  rw [itl_tx] at h
  unfold tlS
  rw [h]
  exact wt_itl l 0

/-! ### what stands behind -/
/-- Nothing, or a byte that no name goes on with. -/
def Nk (s : List UInt8) : Prop := ∀ c r, s = c :: r → L4.okC c = false
/-- A byte that an operand begins with. -/
def Hd (s : List UInt8) : Prop := ∃ c r, s = c :: r ∧ (L4.okC c = true ∨ c = 40)
theorem fol_sign {t s : List UInt8} (h : t = [60] ∨ t = [62] ∨ t = [33] ∨ t = [61] ∨ t = [47] → Hd s) : folB 4 t s = true := by
  cases s with
  | nil => rfl
  | cons c r =>
    simp only [folB, if_true]
    by_cases h1 : t = [60] ∨ t = [62] ∨ t = [33] ∨ t = [61]
    · rw [if_pos h1]
      obtain ⟨c', r', h2, h3⟩ := h (by rcases h1 with h | h | h | h <;> simp [h])
      cases h2
      have : c ≠ 61 := by rintro rfl; rcases h3 with h3 | h3; exact absurd h3 (by decide); exact absurd h3 (by decide)
      simp [this]
    · rw [if_neg h1]
      by_cases h4 : t = [47]
      · rw [if_pos h4]
        obtain ⟨c', r', h2, h3⟩ := h (by simp [h4])
        cases h2
        have : c ≠ 47 := by rintro rfl; rcases h3 with h3 | h3; exact absurd h3 (by decide); exact absurd h3 (by decide)
        simp [this]
      · rw [if_neg h4]; simp
theorem fol_word {k : Int} {t s : List UInt8} (hk : k ≠ 4) (h : Nk s) : folB k t s = true := by
  cases s with
  | nil => rfl
  | cons c r =>
    simp only [folB]
    rw [if_neg hk, h c r rfl]; simp
theorem fol_cons {x : Int × List UInt8} {l : TL} (h : folB x.1 x.2 (tb l) = true) (hl : FolL (itl l)) : FolL (itl (x :: l)) := by
  show folB x.1 x.2 (tx (itl l) []) = true ∧ FolL (itl l)
  rw [itl_tx]
  exact ⟨h, hl⟩
theorem nk_sign {s : List UInt8} {l : TL} (h : ∃ c r, s = c :: r ∧ L4.okC c = false) : Nk (tb ((4, s) :: l)) := by
  obtain ⟨c, r, rfl, hc⟩ := h
  intro c' r' e
  rw [tb_cons] at e
  simp at e
  rw [← e.1]; exact hc

/-! ### names, numbers -/
theorem tok_name {s : List UInt8} (h : S3.nameB s = true) : IsTok 1 s := by
  cases s with
  | nil => simp [S3.nameB] at h
  | cons c r =>
    simp only [S3.nameB, Bool.and_eq_true, decide_eq_true_eq, List.headD_cons, Bool.not_eq_true'] at h
    obtain ⟨⟨⟨⟨_, h2⟩, h3⟩, h4⟩, h5⟩ := h
    have hall : (c :: r).all L4.okC = true := by
      rw [List.all_eq_true] at h4 ⊢
      intro x hx
      have := h4 x hx
      simp only [S3.okC, Bool.or_eq_true] at this
      simp only [L4.okC, Bool.or_eq_true]
      rcases this with (h | h) | h
      · exact .inl (.inl h)
      · exact .inl (.inr h)
      · refine .inr ?_
        have hx : x.toNat = 95 := by simpa using h
        have : x = 95 := by
          apply UInt8.toNat_inj.1
          rw [hx]; rfl
        simp [this]
    have ht := tok_ok (c :: r) hall (by simp)
    have hk : L4.kwB (c :: r) = false := h5
    have hn : L4.nameB (c :: r) = true := by
      simp only [L4.nameB, Bool.and_eq_true, decide_eq_true_eq]
      refine ⟨h3, ?_⟩
      simpa using h2
    rw [hk, hn] at ht
    exact ⟨ht, by decide⟩
theorem tok_num {n : Nat} (h : n ≤ 9223372036854775807) : IsTok 2 (Lib.decDigits n) := by
  have hd := decDigits_dig n
  have hall : (Lib.decDigits n).all L4.okC = true := by
    rw [List.all_eq_true]
    intro c hc
    exact okC_dig ((dig_iff c).2 (hd c hc))
  have hne := decDigits_ne n
  have hnum := numB_dec n h
  have ht := tok_ok _ hall hne
  cases hq : Lib.decDigits n with
  | nil => exact absurd hq hne
  | cons c r =>
    rw [hq] at ht hnum hd
    have hc : dig c = true := (dig_iff c).2 (hd c (by simp))
    have hl : lett c = false := by
      rw [← Bool.not_eq_true]; intro h; rw [lett_dig h] at hc; cases hc
    have hk : L4.kwB (c :: r) = false := by
      rw [← Bool.not_eq_true]; intro hk; rw [kwB_lett hk] at hl; cases hl
    have hn : L4.nameB (c :: r) = false := by simp [L4.nameB, hl]
    rw [hk, hn, hnum] at ht
    exact ⟨ht, by decide⟩
theorem name_hd {s : List UInt8} (h : S3.nameB s = true) : ∃ c r, s = c :: r ∧ L4.okC c = true := by
  have := tok_all (tok_name h) (by decide)
  cases s with
  | nil => exact absurd rfl this.2
  | cons c r => exact ⟨c, r, rfl, by have := this.1; simp at this; exact this.1⟩
theorem num_hd (n : Nat) : ∃ c r, Lib.decDigits n = c :: r ∧ L4.okC c = true := by
  cases hq : Lib.decDigits n with
  | nil => exact absurd hq (decDigits_ne n)
  | cons c r => exact ⟨c, r, rfl, okC_dig ((dig_iff c).2 (decDigits_dig n c (by rw [hq]; simp)))⟩
theorem sign_tok {op : Int} (h : 1 ≤ op ∧ op ≤ 15) : IsTok 4 (signB op) ∧ ∃ c r, signB op = c :: r ∧ L4.okC c = false := by
  have : op = 1 ∨ op = 2 ∨ op = 3 ∨ op = 4 ∨ op = 5 ∨ op = 6 ∨ op = 7 ∨ op = 8 ∨ op = 9 ∨ op = 10 ∨ op = 11 ∨ op = 12 ∨ op = 13 ∨ op = 14 ∨ op = 15 := by omega
  rcases this with rfl | rfl | rfl | rfl | rfl | rfl | rfl | rfl | rfl | rfl | rfl | rfl | rfl | rfl | rfl <;>
    exact ⟨⟨by decide +kernel, by decide⟩, _, _, rfl, by decide⟩
theorem par_toks : IsTok 4 [40] ∧ IsTok 4 [41] ∧ IsTok 4 [91] ∧ IsTok 4 [93] := ⟨⟨by decide +kernel, by decide⟩, ⟨by decide +kernel, by decide⟩, ⟨by decide +kernel, by decide⟩, ⟨by decide +kernel, by decide⟩⟩

/-! ### trees -/
def parB (c : Bool) (s : List UInt8) : List UInt8 := if c then 40 :: (s ++ [41]) else s
def Tr.tx : Tr → List UInt8
  | .num n => Lib.decDigits n
  | .bool b => if b then [116, 114, 117, 101] else [102, 97, 108, 115, 101]
  | .len s => [108, 101, 110, 40] ++ s ++ [41]
  | .var s => s
  | .un op a => signB op ++ parB a.comp a.tx
  | .idx s a => s ++ [91] ++ a.tx ++ [93]
  | .bin op a b => parB a.comp a.tx ++ signB op ++ parB b.comp b.tx
theorem tb_par (c : Bool) (l : TL) : tb (parT c l) = parB c (tb l) := by
  cases c <;> simp [parT, parB, tb, tOpen, tShut]
theorem tr_tb (t : Tr) : tb t.tk = t.tx := by
  induction t with
  | num n => simp [Tr.tk, Tr.tx, tb]
  | bool b => cases b <;> simp [Tr.tk, Tr.tx, tb]
  | len s => simp [Tr.tk, Tr.tx, tb, tOpen, tShut]
  | var s => simp [Tr.tk, Tr.tx, tb]
  | un op a ih => rw [Tr.tk, Tr.tx, tb_cons, tb_par, ih]
  | idx s a ih => rw [Tr.tk, Tr.tx, tb_cons, tb_cons, tb_app, ih]; simp [tb]
  | bin op a b iha ihb => rw [Tr.tk, Tr.tx, tb_app, tb_cons, tb_par, tb_par, iha, ihb]; simp
theorem tk_toks (t : Tr) : t.ok → ∀ x ∈ t.tk, IsTok x.1 x.2 := by
  have par : ∀ (c : Bool) (l : TL), (∀ x ∈ l, IsTok x.1 x.2) → ∀ x ∈ parT c l, IsTok x.1 x.2 := by
    intro c l h x hx
    unfold parT at hx
    cases c with
    | false => exact h x hx
    | true =>
      simp only [if_true, List.mem_cons, List.mem_append, List.not_mem_nil, or_false] at hx
      rcases hx with rfl | hx | rfl
      · exact par_toks.1
      · exact h x hx
      · exact par_toks.2.1
  induction t with
  | num n => intro h x hx; simp only [Tr.tk, List.mem_singleton] at hx; subst hx; exact tok_num h
  | bool b => intro _ x hx; simp only [Tr.tk, List.mem_singleton] at hx; subst hx; cases b <;> exact ⟨by decide +kernel, by decide⟩
  | len s =>
    intro h x hx
    simp only [Tr.tk, List.mem_cons, List.not_mem_nil, or_false] at hx
    rcases hx with rfl | rfl | rfl | rfl
    · exact ⟨by decide +kernel, by decide⟩
    · exact par_toks.1
    · exact tok_name h
    · exact par_toks.2.1
  | var s => intro h x hx; simp only [Tr.tk, List.mem_singleton] at hx; subst hx; exact tok_name h
  | un op a ih =>
    intro h x hx
    simp only [Tr.tk, List.mem_cons] at hx
    rcases hx with rfl | hx
    · exact (sign_tok (by rcases h.1 with h | h <;> omega)).1
    · exact par _ _ (ih h.2) x hx
  | idx s a ih =>
    intro h x hx
    simp only [Tr.tk, List.mem_cons, List.mem_append, List.not_mem_nil, or_false] at hx
    rcases hx with rfl | rfl | hx | rfl
    · exact tok_name h.1
    · exact par_toks.2.2.1
    · exact ih h.2 x hx
    · exact par_toks.2.2.2
  | bin op a b iha ihb =>
    intro h x hx
    simp only [Tr.tk, List.mem_cons, List.mem_append] at hx
    rcases hx with hx | rfl | hx
    · exact par _ _ (iha h.2.1) x hx
    · exact (sign_tok (by have := h.1; omega)).1
    · exact par _ _ (ihb h.2.2) x hx
theorem tr_hd (t : Tr) : t.ok → t.comp = false → ∀ m : List UInt8, Hd (t.tx ++ m) := by
  intro h hc m
  cases t with
  | num n => obtain ⟨c, r, e, hc⟩ := num_hd n; exact ⟨c, r ++ m, by rw [Tr.tx, e]; rfl, .inl hc⟩
  | bool b => cases b <;> exact ⟨_, _, rfl, .inl (by decide)⟩
  | len s => exact ⟨_, _, rfl, .inl (by decide)⟩
  | var s => obtain ⟨c, r, e, hc⟩ := name_hd (s := s) h; exact ⟨c, r ++ m, by rw [Tr.tx, e]; rfl, .inl hc⟩
  | un op a => cases hc
  | idx s a => obtain ⟨c, r, e, hc⟩ := name_hd (s := s) h.1; exact ⟨c, _, by rw [Tr.tx, e]; rfl, .inl hc⟩
  | bin op a b => cases hc
theorem par_hd (t : Tr) (h : t.ok) (m : List UInt8) : Hd (parB t.comp t.tx ++ m) := by
  cases hc : t.comp with
  | true => exact ⟨40, _, rfl, .inr rfl⟩
  | false => exact tr_hd t h hc m
theorem tr_fol (t : Tr) : t.ok → ∀ m : TL, FolL (itl m) → Nk (tb m) → FolL (itl (t.tk ++ m)) := by
  have par : ∀ (t : Tr), (∀ m : TL, FolL (itl m) → Nk (tb m) → FolL (itl (t.tk ++ m))) → ∀ m : TL, FolL (itl m) → Nk (tb m) → FolL (itl (parT t.comp t.tk ++ m)) := by
    intro t ih m hm hn
    cases hc : t.comp with
    | false => exact ih m hm hn
    | true =>
      have e : parT true t.tk ++ m = tOpen :: (t.tk ++ (tShut :: m)) := by simp [parT]
      rw [e]
      refine fol_cons (fol_sign (by simp [tOpen])) (ih _ (fol_cons (fol_sign (by simp [tShut])) hm) (nk_sign ⟨41, [], rfl, by decide⟩))
  induction t with
  | num n => intro _ m hm hn; exact fol_cons (fol_word (by simp) hn) hm
  | bool b => intro _ m hm hn; exact fol_cons (fol_word (by simp) hn) hm
  | len s =>
    intro _ m hm hn
    refine fol_cons (fol_word (by simp) (nk_sign ⟨40, [], rfl, by decide⟩)) (fol_cons (fol_sign (by simp [tOpen])) (fol_cons (fol_word (by simp) (nk_sign ⟨41, [], rfl, by decide⟩)) (fol_cons (fol_sign (by simp [tShut])) hm)))
  | var s => intro _ m hm hn; exact fol_cons (fol_word (by simp) hn) hm
  | un op a ih =>
    intro h m hm hn
    refine fol_cons (fol_sign fun _ => ?_) (par a (ih h.2) m hm hn)
    show Hd (tb (parT a.comp a.tk ++ m))
    rw [tb_app, tb_par, tr_tb]
    exact par_hd a h.2 _
  | idx s a ih =>
    intro h m hm hn
    have e : (Tr.idx s a).tk ++ m = (1, s) :: (4, [91]) :: (a.tk ++ ((4, [93]) :: m)) := by simp [Tr.tk]
    rw [e]
    exact fol_cons (fol_word (by simp) (nk_sign ⟨91, [], rfl, by decide⟩)) (fol_cons (fol_sign (by simp)) (ih h.2 _ (fol_cons (fol_sign (by simp)) hm) (nk_sign ⟨93, [], rfl, by decide⟩)))
  | bin op a b iha ihb =>
    intro h m hm hn
    have e : (Tr.bin op a b).tk ++ m = parT a.comp a.tk ++ ((4, signB op) :: (parT b.comp b.tk ++ m)) := by simp [Tr.tk]
    rw [e]
    refine par a (iha h.2.1) _ (fol_cons (fol_sign fun _ => ?_) (par b (ihb h.2.2) m hm hn)) (nk_sign (sign_tok (by have := h.1; omega)).2)
    rw [tb_app, tb_par, tr_tb]
    exact par_hd b h.2.2 _
/-- What a scan of a tree's text gives. -/
theorem tlS_tree {t : Tr} (h : t.ok) : tlS t.tx = t.tk := by
  have h1 := tr_fol t h [] trivial (fun c r e => by simp [tb] at e)
  rw [List.append_nil] at h1
  have := tlS_of (tk_toks t h) h1
  rwa [tr_tb] at this
/-- .. and in parentheses. -/
def wrapT (k : Nat) (l : TL) : TL := List.replicate k tOpen ++ (l ++ List.replicate k tShut)
theorem tlS_wrap {t : Tr} (h : t.ok) (k : Nat) : tlS (List.replicate k 40 ++ (t.tx ++ List.replicate k 41)) = wrapT k t.tk := by
  have shut : ∀ k, FolL (itl (List.replicate k tShut)) ∧ Nk (tb (List.replicate k tShut)) := by
    intro k
    induction k with
    | zero => exact ⟨trivial, fun c r e => by simp [tb] at e⟩
    | succ k ih => exact ⟨fol_cons (fol_sign (by simp [tShut])) ih.1, nk_sign ⟨41, [], rfl, by decide⟩⟩
  have opn : ∀ k (l : TL), FolL (itl l) → FolL (itl (List.replicate k tOpen ++ l)) := by
    intro k l hl
    induction k with
    | zero => exact hl
    | succ k ih => exact fol_cons (fol_sign (by simp [tOpen])) ih
  have hf := opn k _ (tr_fol t h _ (shut k).1 (shut k).2)
  have hok : ∀ x ∈ wrapT k t.tk, IsTok x.1 x.2 := by
    intro x hx
    simp only [wrapT, List.mem_append, List.mem_replicate] at hx
    rcases hx with ⟨_, rfl⟩ | hx | ⟨_, rfl⟩
    · exact par_toks.1
    · exact tk_toks t h x hx
    · exact par_toks.2.1
  have e : tb (wrapT k t.tk) = List.replicate k 40 ++ (t.tx ++ List.replicate k 41) := by
    have rep : ∀ k (c : UInt8), tb (List.replicate k ((4, [c]) : Int × List UInt8)) = List.replicate k c := by
      intro k c
      induction k with
      | zero => rfl
      | succ k ih => rw [List.replicate_succ, tb_cons, ih]; rfl
    unfold wrapT
    rw [tb_app, tb_app, tr_tb]
    have r1 := rep k 40
    have r2 := rep k 41
    rw [show tOpen = ((4, [40]) : Int × List UInt8) from rfl, show tShut = ((4, [41]) : Int × List UInt8) from rfl, r1, r2]
  have := tlS_of (l := wrapT k t.tk) hok hf
  rwa [e] at this

/-! ### drafts -/
def dNext : List Nat → Nat × List Nat
  | [] => (0, [])
  | n :: r => (n, r)
def nm5 (n : Nat) : List UInt8 := if n = 0 then [97] else if n = 1 then [98] else if n = 2 then [120, 49] else if n = 3 then [108, 111, 110, 103, 95, 110, 97, 109, 101] else [90]
theorem nm5_ok (n : Nat) : S3.nameB (nm5 n) = true := by
  unfold nm5
  split
  · decide
  split
  · decide
  split
  · decide
  split
  · decide
  · decide
def leafT (n : Nat) (d : List Nat) : Tr × List Nat :=
  if n % 4 = 0 then (.num (n / 4 * (1 + (dNext d).1 % 3) + n % 8 * 1099511627776), (dNext d).2)
  else if n % 4 = 1 then (.bool (n / 4 % 2 == 1), d)
  else if n % 4 = 2 then (.len (nm5 (n / 8 % 5)), d)
  else (.var (nm5 (n / 8 % 5)), d)
/-- The tree of a draft, with at most k + 1 levels, and what is left. -/
def mkT : Nat → List Nat → Tr × List Nat
  | 0, d => leafT (dNext d).1 (dNext d).2
  | k + 1, d =>
    let n := (dNext d).1
    let d1 := (dNext d).2
    if n % 8 ≤ 2 then
      let o := (dNext d1).1
      let a := mkT k (dNext d1).2
      let b := mkT k a.2
      (.bin ((1 + o % 13 : Nat) : Int) a.1 b.1, b.2)
    else if n % 8 = 3 then
      let a := mkT k (dNext d1).2
      (.un ((14 + (dNext d1).1 % 2 : Nat) : Int) a.1, a.2)
    else if n % 8 = 4 then
      let a := mkT k d1
      (.idx (nm5 (n / 8 % 5)) a.1, a.2)
    else leafT n d1
theorem dNext_all {d : List Nat} (h : ∀ x ∈ d, x ≤ 255) : (dNext d).1 ≤ 255 ∧ ∀ x ∈ (dNext d).2, x ≤ 255 := by
  cases d with
  | nil => exact ⟨by decide, h⟩
  | cons n r => exact ⟨h n (by simp), fun x hx => h x (by simp [dNext] at hx; simp [hx])⟩
theorem leafT_ok {n : Nat} {d : List Nat} (hn : n ≤ 255) (h : ∀ x ∈ d, x ≤ 255) : (leafT n d).1.ok ∧ (leafT n d).1.lev = 1 ∧ ∀ x ∈ (leafT n d).2, x ≤ 255 := by
  unfold leafT
  split
  · refine ⟨?_, rfl, (dNext_all h).2⟩
    show n / 4 * (1 + (dNext d).1 % 3) + n % 8 * 1099511627776 ≤ 9223372036854775807
    have h1 : n / 4 * (1 + (dNext d).1 % 3) ≤ 63 * 3 := Nat.mul_le_mul (by omega) (by omega)
    omega
  split
  · exact ⟨trivial, rfl, h⟩
  split
  · exact ⟨nm5_ok _, rfl, h⟩
  · exact ⟨nm5_ok _, rfl, h⟩
theorem mkT_ok (k : Nat) : ∀ d : List Nat, (∀ x ∈ d, x ≤ 255) → (mkT k d).1.ok ∧ (mkT k d).1.lev ≤ k + 1 ∧ ∀ x ∈ (mkT k d).2, x ≤ 255 := by
  induction k with
  | zero =>
    intro d h
    obtain ⟨h1, h2⟩ := dNext_all h
    obtain ⟨a, b, c⟩ := leafT_ok h1 h2
    exact ⟨a, by show (leafT _ _).1.lev ≤ 1; omega, c⟩
  | succ k ih =>
    intro d h
    obtain ⟨h1, h2⟩ := dNext_all h
    obtain ⟨h3, h4⟩ := dNext_all h2
    rw [mkT]
    simp only
    split
    · obtain ⟨a1, a2, a3⟩ := ih _ h4
      obtain ⟨b1, b2, b3⟩ := ih _ a3
      refine ⟨⟨⟨by omega, by omega⟩, a1, b1⟩, ?_, b3⟩
      simp only [Tr.lev]; omega
    split
    · obtain ⟨a1, a2, a3⟩ := ih _ h4
      exact ⟨⟨by omega, a1⟩, by simp only [Tr.lev]; omega, a3⟩
    split
    · obtain ⟨a1, a2, a3⟩ := ih _ h2
      exact ⟨⟨nm5_ok _, a1⟩, by simp only [Tr.lev]; omega, a3⟩
    · obtain ⟨a, b, c⟩ := leafT_ok h1 h2
      exact ⟨a, by omega, c⟩
/-- How long a tree's text is. -/
theorem sign_len (op : Int) : (signB op).length ≤ 2 := by
  unfold signB
  split
  · decide
  split
  · decide
  cases h : opsL.find? (fun r => r.2.1 == op) with
  | none => decide
  | some r =>
    have := List.mem_of_find?_eq_some h
    have hall : ∀ r ∈ opsL, r.1.length ≤ 2 := by decide
    exact hall r this
end Go.Proofs.YtoldhocdfkndbaaGreatDoor.E5
