/-
  Expressions as trees; their tokens with operands in parentheses; they are parsed as themselves. No program is named here.
-/
import Derived.Test.YtoldhocdfkndbaaGreatDoorEWf
import Derived.Test.YtoldhocdfkndbaaGreatDoorEScan
namespace Go.Proofs.YtoldhocdfkndbaaGreatDoor.E5
open Go Go.Proofs.YtoldhocdfkndbaaGreatDoor

inductive Tr
  | num (n : Nat)
  | bool (b : Bool)
  | len (s : Bytes)
  | var (s : Bytes)
  | un (op : Int) (a : Tr)
  | idx (s : Bytes) (a : Tr)
  | bin (op : Int) (a b : Tr)
deriving Inhabited
def Tr.ex : Tr → Ex
  | .num n => ⟨1, 0, n, [], []⟩
  | .bool b => ⟨2, 0, if b then 1 else 0, [], []⟩
  | .len s => ⟨7, 0, 0, s, []⟩
  | .var s => ⟨3, 0, 0, s, []⟩
  | .un op a => ⟨4, op, 0, [], [a.ex]⟩
  | .idx s a => ⟨6, 0, 0, s, [a.ex]⟩
  | .bin op a b => ⟨5, op, 0, [], [a.ex, b.ex]⟩
def Tr.comp : Tr → Bool
  | .un _ _ => true
  | .bin _ _ _ => true
  | _ => false
def tOpen : Int × Bytes := (4, [40])
def tShut : Int × Bytes := (4, [41])
def parT (c : Bool) (l : TL) : TL := if c then tOpen :: (l ++ [tShut]) else l
def Tr.tk : Tr → TL
  | .num n => [(2, Lib.decDigits n)]
  | .bool b => [(3, if b then [116, 114, 117, 101] else [102, 97, 108, 115, 101])]
  | .len s => [(3, [108, 101, 110]), tOpen, (1, s), tShut]
  | .var s => [(1, s)]
  | .un op a => (4, signB op) :: parT a.comp a.tk
  | .idx s a => (1, s) :: (4, [91]) :: (a.tk ++ [(4, [93])])
  | .bin op a b => parT a.comp a.tk ++ (4, signB op) :: parT b.comp b.tk
def Tr.lev : Tr → Nat
  | .un _ a => a.lev + 1
  | .idx _ a => a.lev + 1
  | .bin _ a b => max a.lev b.lev + 1
  | _ => 1
def Tr.ok : Tr → Prop
  | .num n => n ≤ 9223372036854775807
  | .bool _ => True
  | .len s => S3.nameB s = true
  | .var s => S3.nameB s = true
  | .un op a => (op = 14 ∨ op = 15) ∧ a.ok
  | .idx s a => S3.nameB s = true ∧ a.ok
  | .bin op a b => (1 ≤ op ∧ op ≤ 13) ∧ a.ok ∧ b.ok
def Tr.nest : Tr → Nat
  | .un _ a => a.nest + 2
  | .idx _ a => a.nest + 1
  | .bin _ a b => max a.nest b.nest + 1
  | _ => 0
theorem nest_lev (t : Tr) : t.nest + 2 ≤ 2 * t.lev := by
  induction t <;> simp only [Tr.nest, Tr.lev] <;> omega

/-! ### depth -/
/-- Of the depth n at most. -/
def Gd (n : Nat) (e : Ex) : Prop := ∀ k, n ≤ k → S3.dep k e ≠ 0
theorem Gd.mono {n m : Nat} {e : Ex} (h : Gd n e) (hm : n ≤ m) : Gd m e := fun k hk => h k (by omega)
theorem Gd.exB {n : Nat} {e : Ex} (h : Gd n e) (hn : n ≤ 20) : S3.exB e = true := by unfold S3.exB; exact decide_eq_true (h 20 hn)
theorem gd_leaf {e : Ex} (hf : S3.fitB e = true) (ha : e.args = []) : Gd 1 e := by
  intro k hk
  obtain ⟨k, rfl⟩ : ∃ j, k = j + 1 := ⟨k - 1, by omega⟩
  rw [S3.dep, if_pos hf, ha]; simp [S3.deps, S3.depOf]
theorem gd_one {e a : Ex} {n : Nat} (hf : S3.fitB e = true) (ha : e.args = [a]) (h : Gd n a) : Gd (n + 1) e := by
  intro k hk
  obtain ⟨k, rfl⟩ : ∃ j, k = j + 1 := ⟨k - 1, by omega⟩
  have := h k (by omega)
  rw [S3.dep, if_pos hf, ha]; simp [S3.deps, S3.depOf, this]
theorem gd_two {e a b : Ex} {n m : Nat} (hf : S3.fitB e = true) (ha : e.args = [a, b]) (h : Gd n a) (h' : Gd m b) : Gd (max n m + 1) e := by
  intro k hk
  obtain ⟨k, rfl⟩ : ∃ j, k = j + 1 := ⟨k - 1, by omega⟩
  have h1 := h k (by omega)
  have h2 := h' k (by omega)
  rw [S3.dep, if_pos hf, ha]; simp [S3.deps, S3.depOf, h1, h2]
theorem nameB_ne {s : Bytes} (h : S3.nameB s = true) : s ≠ [] := by rintro rfl; simp [S3.nameB] at h
theorem fit_un {op : Int} (h : op = 14 ∨ op = 15) (a : Ex) : S3.fitB ⟨4, op, 0, [], [a]⟩ = true := by
  rcases h with rfl | rfl <;> simp [S3.fitB, S3.exRow, S3.rowFit, S3.howB]
theorem fit_bin {op : Int} (h : 1 ≤ op ∧ op ≤ 13) (a b : Ex) : S3.fitB ⟨5, op, 0, [], [a, b]⟩ = true := by
  simp [S3.fitB, S3.exRow, S3.rowFit, S3.howB, h]
theorem fit_idx {s : Bytes} (h : S3.nameB s = true) (a : Ex) : S3.fitB ⟨6, 0, 0, s, [a]⟩ = true := by
  simp [S3.fitB, S3.exRow, S3.rowFit, S3.howB, h, nameB_ne h]
theorem fit_var {s : Bytes} (h : S3.nameB s = true) : S3.fitB ⟨3, 0, 0, s, []⟩ = true := by
  simp [S3.fitB, S3.exRow, S3.rowFit, S3.howB, h, nameB_ne h]
theorem fit_len {s : Bytes} (h : S3.nameB s = true) : S3.fitB ⟨7, 0, 0, s, []⟩ = true := by
  simp [S3.fitB, S3.exRow, S3.rowFit, S3.howB, h, nameB_ne h]
theorem fit_num {n : Int} (h : 0 ≤ n) (h2 : n ≤ 9223372036854775807) : S3.fitB ⟨1, 0, n, [], []⟩ = true := by
  simp [S3.fitB, S3.exRow, S3.rowFit, S3.howB, h, h2]
theorem fit_bool (b : Bool) : S3.fitB ⟨2, 0, if b then 1 else 0, [], []⟩ = true := by
  cases b <;> simp [S3.fitB, S3.exRow, S3.rowFit, S3.howB]
theorem Tr.gd (t : Tr) (h : t.ok) : Gd t.lev t.ex := by
  induction t with
  | num n => exact gd_leaf (fit_num (by omega) (by have h : n ≤ 9223372036854775807 := h; omega)) rfl
  | bool b => exact gd_leaf (fit_bool b) rfl
  | len s => exact gd_leaf (fit_len h) rfl
  | var s => exact gd_leaf (fit_var h) rfl
  | un op a ih => exact gd_one (fit_un h.1 _) rfl (ih h.2)
  | idx s a ih => exact gd_one (fit_idx h.1 _) rfl (ih h.2)
  | bin op a b iha ihb => exact gd_two (fit_bin h.1 _ _) rfl (iha h.2.1) (ihb h.2.2)

/-! ### tokens at a place -/
theorem tk_at {l : TL} {i : Nat} {x : Int × Bytes} {r : TL} (h : l.drop i = x :: r) : tkAt l i = x ∧ i < l.length ∧ l.drop (i + 1) = r := by
  have hi : i < l.length := by
    rcases Nat.lt_or_ge i l.length with h1 | h1
    · exact h1
    · rw [List.drop_eq_nil_of_le h1] at h; cases h
  rw [List.drop_eq_getElem_cons hi] at h
  obtain ⟨h1, h2⟩ := List.cons.inj h
  exact ⟨by unfold tkAt; rw [List.getElem?_eq_getElem hi]; simpa using h1, hi, h2⟩
theorem sg_at {l : TL} {i : Nat} {s : Bytes} {r : TL} (h : l.drop i = (4, s) :: r) : sgAt l i = s := by
  unfold sgAt; rw [(tk_at h).1]; simp
theorem drop_add {l a b : TL} {i : Nat} (h : l.drop i = a ++ b) : l.drop (i + a.length) = b := by
  rw [← List.drop_drop, h, List.drop_left]
theorem signB_bin {op : Int} (h : 1 ≤ op ∧ op ≤ 13) : opB (signB op) = (op, (opB (signB op)).2) ∧ 1 ≤ (opB (signB op)).2 ∧ (opB (signB op)).2 ≤ 5 ∧ signB op ≠ [] := by
  have : op = 1 ∨ op = 2 ∨ op = 3 ∨ op = 4 ∨ op = 5 ∨ op = 6 ∨ op = 7 ∨ op = 8 ∨ op = 9 ∨ op = 10 ∨ op = 11 ∨ op = 12 ∨ op = 13 := by omega
  rcases this with rfl | rfl | rfl | rfl | rfl | rfl | rfl | rfl | rfl | rfl | rfl | rfl | rfl <;> decide
theorem numT_dec (n : Nat) (h : n ≤ 9223372036854775807) : numT (Lib.decDigits n) = some (n : Int) := by
  have h1 : N2.numParse (Lib.itoa (n : Int)) = some (n : Int) := N2.numParse_itoa (by unfold N2.okI; omega)
  rw [itoa_nn] at h1
  unfold numT
  rw [h1]
  simp
/-- What stands behind an expression: no operator with two operands. -/
def endB (l : TL) (i : Nat) : Prop := (opB (sgAt l i)).2 < 1
theorem endB_lop {l : TL} {i : Nat} (h : endB l i) (e : Ex) (d : Nat) (m : Int) (hm : 1 ≤ m) : lopR l e i d m = .ok e i := lopR_end l e i d m (by unfold endB at h; omega)

theorem opdR_num {l : TL} {i : Nat} {t : Bytes} (h : tkAt l i = (2, t)) (d : Nat) (hi : i ≤ l.length) : opdR l i d = numR l i := by
  rw [opdR_eq l i d hi, if_pos (by rw [h])]
theorem opdR_key {l : TL} {i : Nat} {t : Bytes} (h : tkAt l i = (3, t)) (d : Nat) (hi : i ≤ l.length) : opdR l i d = keyR l i := by
  rw [opdR_eq l i d hi, if_neg (by rw [h]; simp), if_neg (by rw [h]; simp), if_pos (by rw [h])]
theorem opdR_name {l : TL} {i : Nat} {t : Bytes} (h : tkAt l i = (1, t)) (hn : S3.nameB t = true) (d : Nat) (hi : i ≤ l.length) : opdR l i d =
    if sgAt l (i + 1) = [91] then
      if 40 ≤ d then .bad (i + 1) 8 else (binR l (i + 2) (d + 1) 1).bind fun e n => if sgAt l n = [93] then madeR ⟨6, 0, 0, t, [e]⟩ (n + 1) else .bad n 7
    else .ok ⟨3, 0, 0, t, []⟩ (i + 1) := by
  rw [opdR_eq l i d hi, if_neg (by rw [h]; simp), if_pos (by rw [h]), h, if_pos hn]
theorem opdR_un {l : TL} {i : Nat} {op : Int} (hop : op = 14 ∨ op = 15) (h : tkAt l i = (4, signB op)) (d : Nat) (hi : i ≤ l.length) (hd : d < 40) : opdR l i d = (opdR l (i + 1) (d + 1)).bind fun e n => madeR ⟨4, op, 0, [], [e]⟩ n := by
  have hs : sgAt l i = signB op := by unfold sgAt; rw [h]; rfl
  rw [opdR_eq l i d hi, if_neg (by rw [h]; simp), if_neg (by rw [h]; simp), if_neg (by rw [h]; simp), hs]
  rcases hop with rfl | rfl
  · rw [if_pos (by decide), if_neg (by omega)]
  · rw [if_neg (by decide), if_pos (by decide), if_neg (by omega)]
theorem opdR_par {l : TL} {i : Nat} (h : tkAt l i = (4, [40])) (d : Nat) (hi : i ≤ l.length) (hd : d < 40) : opdR l i d = (binR l (i + 1) (d + 1) 1).bind fun e n => if sgAt l n = [41] then .ok e (n + 1) else .bad n 7 := by
  have hs : sgAt l i = [40] := by unfold sgAt; rw [h]; rfl
  rw [opdR_eq l i d hi, if_neg (by rw [h]; simp), if_neg (by rw [h]; simp), if_neg (by rw [h]; simp), hs, if_neg (by decide), if_neg (by decide), if_pos rfl, if_neg (by omega)]

/-! ### the tree is found again -/
theorem parse_tree (l : TL) (t : Tr) : t.ok → t.lev ≤ 20 →
    (∀ i d post, l.drop i = parT t.comp t.tk ++ post → d + t.nest + 1 ≤ 40 → sgAt l (i + (parT t.comp t.tk).length) ≠ [91] → opdR l i d = .ok t.ex (i + (parT t.comp t.tk).length)) ∧
    (∀ i d post m, 1 ≤ m → l.drop i = t.tk ++ post → d + t.nest ≤ 40 → m = 1 ∨ t.comp = false → endB l (i + t.tk.length) → sgAt l (i + t.tk.length) ≠ [91] → binR l i d m = .ok t.ex (i + t.tk.length)) := by
  have wrap : ∀ t : Tr, (∀ i d post m, 1 ≤ m → l.drop i = t.tk ++ post → d + t.nest ≤ 40 → m = 1 ∨ t.comp = false → endB l (i + t.tk.length) → sgAt l (i + t.tk.length) ≠ [91] → binR l i d m = .ok t.ex (i + t.tk.length)) → t.comp = true →
      ∀ i d post, l.drop i = parT t.comp t.tk ++ post → d + t.nest + 1 ≤ 40 → opdR l i d = .ok t.ex (i + (parT t.comp t.tk).length) := by
    intro t hb hc i d post h hd
    rw [hc, parT, if_pos rfl] at h ⊢
    obtain ⟨h1, h2, h3⟩ := tk_at h
    have hs := sg_at (s := [40]) h
    have h3' : l.drop (i + 1) = t.tk ++ ([tShut] ++ post) := by rw [h3]; simp
    have h4 := drop_add h3'
    have hs2 := sg_at (s := [41]) (r := post) (by rw [h4]; rfl)
    have := hb (i + 1) (d + 1) _ 1 (by omega) h3' (by omega) (.inl rfl) (by unfold endB; rw [hs2]; decide) (by rw [hs2]; decide)
    rw [opdR_par h1 d (by omega) (by omega), this]
    simp only [Res.bind]
    rw [hs2, if_pos rfl]
    congr 1
    simp; omega
  have plain : ∀ t : Tr, t.comp = false → (∀ i d post, l.drop i = parT t.comp t.tk ++ post → d + t.nest + 1 ≤ 41 → sgAt l (i + (parT t.comp t.tk).length) ≠ [91] → opdR l i d = .ok t.ex (i + (parT t.comp t.tk).length)) →
      ∀ i d post m, 1 ≤ m → l.drop i = t.tk ++ post → d + t.nest ≤ 40 → m = 1 ∨ t.comp = false → endB l (i + t.tk.length) → sgAt l (i + t.tk.length) ≠ [91] → t.tk ≠ [] → binR l i d m = .ok t.ex (i + t.tk.length) := by
    intro t hc ho i d post m hm h hd _ he hs hne
    have e : parT t.comp t.tk = t.tk := by rw [hc]; rfl
    rw [e] at ho
    have hi : i ≤ l.length := by
      cases hh : t.tk with
      | nil => exact absurd hh hne
      | cons x r => rw [hh] at h; exact Nat.le_of_lt (tk_at h).2.1
    rw [binR_eq l i d m hm hi, ho i d post h (by omega) hs]
    exact endB_lop he _ _ _ hm
  induction t with
  | num n =>
    intro hok _
    have ho : ∀ i d post, l.drop i = parT (Tr.num n).comp (Tr.num n).tk ++ post → d + (Tr.num n).nest + 1 ≤ 41 → sgAt l (i + (parT (Tr.num n).comp (Tr.num n).tk).length) ≠ [91] → opdR l i d = .ok (Tr.num n).ex (i + (parT (Tr.num n).comp (Tr.num n).tk).length) := by
      intro i d post h _ _
      obtain ⟨h1, h2, h3⟩ := tk_at (x := (2, Lib.decDigits n)) (r := post) h
      rw [opdR_num h1 d (by omega)]
      unfold numR
      rw [h1]
      simp only
      rw [numT_dec n hok]; rfl
    exact ⟨fun i d post h hd hs => ho i d post h (by omega) hs, fun i d post m hm h hd hc he hs => plain _ rfl ho i d post m hm h hd hc he hs (by simp [Tr.tk])⟩
  | bool b =>
    intro hok _
    have ho : ∀ i d post, l.drop i = parT (Tr.bool b).comp (Tr.bool b).tk ++ post → d + (Tr.bool b).nest + 1 ≤ 41 → sgAt l (i + (parT (Tr.bool b).comp (Tr.bool b).tk).length) ≠ [91] → opdR l i d = .ok (Tr.bool b).ex (i + (parT (Tr.bool b).comp (Tr.bool b).tk).length) := by
      intro i d post h _ _
      obtain ⟨h1, h2, h3⟩ := tk_at (x := (3, if b then [116, 114, 117, 101] else [102, 97, 108, 115, 101])) (r := post) h
      rw [opdR_key h1 d (by omega)]
      unfold keyR
      rw [h1]
      cases b <;> rfl
    exact ⟨fun i d post h hd hs => ho i d post h (by omega) hs, fun i d post m hm h hd hc he hs => plain _ rfl ho i d post m hm h hd hc he hs (by simp [Tr.tk])⟩
  | len s =>
    intro hok _
    have ho : ∀ i d post, l.drop i = parT (Tr.len s).comp (Tr.len s).tk ++ post → d + (Tr.len s).nest + 1 ≤ 41 → sgAt l (i + (parT (Tr.len s).comp (Tr.len s).tk).length) ≠ [91] → opdR l i d = .ok (Tr.len s).ex (i + (parT (Tr.len s).comp (Tr.len s).tk).length) := by
      intro i d post h _ _
      obtain ⟨h1, h2, h3⟩ := tk_at (x := (3, [108, 101, 110])) (r := tOpen :: (1, s) :: tShut :: post) h
      obtain ⟨h4, h5, h6⟩ := tk_at h3
      obtain ⟨h7, h8, h9⟩ := tk_at h6
      have s1 := sg_at (s := [40]) h3
      have s2 := sg_at (s := [41]) h9
      rw [opdR_key h1 d (by omega)]
      unfold keyR lenR
      rw [h1]
      simp only
      rw [if_neg (by decide), if_neg (by decide), if_pos trivial, s1, if_pos rfl, h7]
      have hk : S3.nameB s = true := hok
      rw [show nmTok (1, s) = true by simp [nmTok, hk], if_pos rfl, s2, if_pos rfl]
      rfl
    exact ⟨fun i d post h hd hs => ho i d post h (by omega) hs, fun i d post m hm h hd hc he hs => plain _ rfl ho i d post m hm h hd hc he hs (by simp [Tr.tk])⟩
  | var s =>
    intro hok _
    have ho : ∀ i d post, l.drop i = parT (Tr.var s).comp (Tr.var s).tk ++ post → d + (Tr.var s).nest + 1 ≤ 41 → sgAt l (i + (parT (Tr.var s).comp (Tr.var s).tk).length) ≠ [91] → opdR l i d = .ok (Tr.var s).ex (i + (parT (Tr.var s).comp (Tr.var s).tk).length) := by
      intro i d post h _ hs
      have hk : S3.nameB s = true := hok
      obtain ⟨h1, h2, h3⟩ := tk_at (x := (1, s)) (r := post) h
      rw [opdR_name h1 hk d (by omega), if_neg (show ¬ sgAt l (i + 1) = [91] from hs)]
      rfl
    exact ⟨fun i d post h hd hs => ho i d post h (by omega) hs, fun i d post m hm h hd hc he hs => plain _ rfl ho i d post m hm h hd hc he hs (by simp [Tr.tk])⟩
  | un op a ih =>
    intro hok hlev
    obtain ⟨hop, hoka⟩ := hok
    simp only [Tr.lev] at hlev
    obtain ⟨iho, ihb⟩ := ih hoka (by omega)
    have hb : ∀ i d post m, 1 ≤ m → l.drop i = (Tr.un op a).tk ++ post → d + (Tr.un op a).nest ≤ 40 → m = 1 ∨ (Tr.un op a).comp = false → endB l (i + (Tr.un op a).tk.length) → sgAt l (i + (Tr.un op a).tk.length) ≠ [91] → binR l i d m = .ok (Tr.un op a).ex (i + (Tr.un op a).tk.length) := by
      intro i d post m hm h hd _ he hs
      have h : l.drop i = (4, signB op) :: (parT a.comp a.tk ++ post) := h
      simp only [Tr.nest] at hd
      obtain ⟨h1, h2, h3⟩ := tk_at h
      have hsg := sg_at h
      have hlen : i + (Tr.un op a).tk.length = i + 1 + (parT a.comp a.tk).length := by simp [Tr.tk]; omega
      rw [hlen] at he hs ⊢
      have ho := iho (i + 1) (d + 1) post h3 (by omega) hs
      have hopd : opdR l i d = .ok (Tr.un op a).ex (i + 1 + (parT a.comp a.tk).length) := by
        have hx : S3.exB ⟨4, op, 0, [], [a.ex]⟩ = true := (Tr.gd (.un op a) ⟨hop, hoka⟩).exB hlev
        rw [opdR_un hop h1 d (by omega) (by omega), ho]
        simp only [Res.bind, madeR]
        rw [if_pos hx]; rfl
      rw [binR_eq l i d m hm (by omega), hopd]
      exact endB_lop he _ _ _ hm
    exact ⟨fun i d post h hd _ => wrap _ hb rfl i d post h hd, hb⟩
  | idx s a ih =>
    intro hok hlev
    obtain ⟨hk, hoka⟩ := hok
    simp only [Tr.lev] at hlev
    obtain ⟨iho, ihb⟩ := ih hoka (by omega)
    have ho : ∀ i d post, l.drop i = parT (Tr.idx s a).comp (Tr.idx s a).tk ++ post → d + (Tr.idx s a).nest + 1 ≤ 41 → sgAt l (i + (parT (Tr.idx s a).comp (Tr.idx s a).tk).length) ≠ [91] → opdR l i d = .ok (Tr.idx s a).ex (i + (parT (Tr.idx s a).comp (Tr.idx s a).tk).length) := by
      intro i d post h hd _
      have h : l.drop i = (1, s) :: (4, [91]) :: (a.tk ++ ([(4, [93])] ++ post)) := by rw [h]; simp [parT, Tr.comp, Tr.tk]
      simp only [Tr.nest] at hd
      obtain ⟨h1, h2, h3⟩ := tk_at h
      obtain ⟨h4, h5, h6⟩ := tk_at h3
      have s1 := sg_at h3
      have h7 := drop_add h6
      have s2 := sg_at (s := [93]) (r := post) (by rw [h7]; rfl)
      have hx : S3.exB ⟨6, 0, 0, s, [a.ex]⟩ = true := (Tr.gd (.idx s a) ⟨hk, hoka⟩).exB hlev
      have hB := ihb (i + 2) (d + 1) _ 1 (by omega) h6 (by omega) (.inl rfl) (by unfold endB; rw [s2]; decide) (by rw [s2]; decide)
      rw [opdR_name h1 hk d (by omega), s1, if_pos rfl, if_neg (by omega), hB]
      simp only [Res.bind]
      rw [s2, if_pos rfl]
      unfold madeR
      rw [if_pos hx]
      simp only [Tr.ex, Tr.comp, Tr.tk, parT]
      congr 1
      simp; omega
    exact ⟨fun i d post h hd hs => ho i d post h (by omega) hs, fun i d post m hm h hd hc he hs => plain _ rfl ho i d post m hm h hd hc he hs (by simp [Tr.tk])⟩
  | bin op a b iha ihb =>
    intro hok hlev
    obtain ⟨hop, hoka, hokb⟩ := hok
    simp only [Tr.lev] at hlev
    obtain ⟨iho, _⟩ := iha hoka (by omega)
    obtain ⟨ihp, _⟩ := ihb hokb (by omega)
    have hb : ∀ i d post m, 1 ≤ m → l.drop i = (Tr.bin op a b).tk ++ post → d + (Tr.bin op a b).nest ≤ 40 → m = 1 ∨ (Tr.bin op a b).comp = false → endB l (i + (Tr.bin op a b).tk.length) → sgAt l (i + (Tr.bin op a b).tk.length) ≠ [91] → binR l i d m = .ok (Tr.bin op a b).ex (i + (Tr.bin op a b).tk.length) := by
      intro i d post m hm h hd hm1 he hs
      obtain rfl : m = 1 := by
        rcases hm1 with h0 | h0
        · exact h0
        · cases h0
      have h : l.drop i = parT a.comp a.tk ++ ((4, signB op) :: (parT b.comp b.tk ++ post)) := by rw [h]; simp [Tr.tk]
      simp only [Tr.nest] at hd
      have h1 := drop_add h
      obtain ⟨h2, h3, h4⟩ := tk_at h1
      have sop := sg_at h1
      obtain ⟨q1, q2, q3, q4⟩ := signB_bin hop
      have hnb : signB op ≠ [91] := by
        intro e; rw [e] at q2; exact absurd q2 (by decide)
      have hlen : i + (Tr.bin op a b).tk.length = i + (parT a.comp a.tk).length + 1 + (parT b.comp b.tk).length := by simp [Tr.tk]; omega
      rw [hlen] at he hs ⊢
      have ha := iho i d _ h (by omega) (by rw [sop]; exact hnb)
      have hB := ihp (i + (parT a.comp a.tk).length + 1) d post h4 (by omega) hs
      have hx : S3.exB ⟨5, op, 0, [], [a.ex, b.ex]⟩ = true := (Tr.gd (.bin op a b) ⟨hop, hoka, hokb⟩).exB hlev
      rw [binR_eq l i d 1 (by omega) (by omega), ha]
      simp only [Res.bind]
      rw [lopR_eq l _ _ d 1 (by
        have := (opdR_within l i d (by omega)); rw [ha] at this; simp only [Res.within] at this; omega) (by omega) (by rw [sop]; omega), sop, binR_eq l _ d _ (by omega) (by omega), hB]
      simp only [Res.bind]
      rw [endB_lop he _ _ _ (by omega)]
      simp only [madeR]
      rw [show (opB (signB op)).1 = op by rw [q1], if_pos hx]
      simp only
      exact endB_lop he _ _ _ (by omega)
    exact ⟨fun i d post h hd _ => wrap _ hb rfl i d post h hd, hb⟩
end Go.Proofs.YtoldhocdfkndbaaGreatDoor.E5
