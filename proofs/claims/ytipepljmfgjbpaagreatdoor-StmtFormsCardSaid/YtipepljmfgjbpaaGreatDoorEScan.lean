/-
  Tokens that stand one right behind the other are found again. No program is named here.
  Expressions as trees; their tokens with operands in parentheses; they are parsed as themselves. No program is named here.
  Expressions that are cut off. No program is named here.
-/
import Derived.Test.YtipepljmfgjbpaaGreatDoorLMath
import Derived.Test.YtipepljmfgjbpaaGreatDoorEWf
namespace Go.Proofs.YtipepljmfgjbpaaGreatDoor.E5
open Go Go.Proofs.YtipepljmfgjbpaaGreatDoor Go.Proofs.YtipepljmfgjbpaaGreatDoor.L4

end Go.Proofs.YtipepljmfgjbpaaGreatDoor.E5

namespace Go.Proofs.YtipepljmfgjbpaaGreatDoor.E5
open Go Go.Proofs.YtipepljmfgjbpaaGreatDoor

inductive Tr
  | num (n : Nat)
  | bool (b : Bool)
  | len (s : Bytes)
  | var (s : Bytes)
  | un (op : Int) (a : Tr)
  | idx (s : Bytes) (a : Tr)
  | bin (op : Int) (a b : Tr)
deriving Inhabited
def Tr.ex : Tr → Ex
  | .num n => ⟨1, 0, n, [], []⟩
  | .bool b => ⟨2, 0, if b then 1 else 0, [], []⟩
  | .len s => ⟨7, 0, 0, s, []⟩
  | .var s => ⟨3, 0, 0, s, []⟩
  | .un op a => ⟨4, op, 0, [], [a.ex]⟩
  | .idx s a => ⟨6, 0, 0, s, [a.ex]⟩
  | .bin op a b => ⟨5, op, 0, [], [a.ex, b.ex]⟩
def Tr.comp : Tr → Bool
  | .un _ _ => true
  | .bin _ _ _ => true
  | _ => false
def tOpen : Int × Bytes := (4, [40])
def tShut : Int × Bytes := (4, [41])
def parT (c : Bool) (l : TL) : TL := if c then tOpen :: (l ++ [tShut]) else l
def Tr.tk : Tr → TL
  | .num n => [(2, Lib.decDigits n)]
  | .bool b => [(3, if b then [116, 114, 117, 101] else [102, 97, 108, 115, 101])]
  | .len s => [(3, [108, 101, 110]), tOpen, (1, s), tShut]
  | .var s => [(1, s)]
  | .un op a => (4, signB op) :: parT a.comp a.tk
  | .idx s a => (1, s) :: (4, [91]) :: (a.tk ++ [(4, [93])])
  | .bin op a b => parT a.comp a.tk ++ (4, signB op) :: parT b.comp b.tk
def Tr.lev : Tr → Nat
  | .un _ a => a.lev + 1
  | .idx _ a => a.lev + 1
  | .bin _ a b => max a.lev b.lev + 1
  | _ => 1
def Tr.ok : Tr → Prop
  | .num n => n ≤ 9223372036854775807
  | .bool _ => True
  | .len s => S3.nameB s = true
  | .var s => S3.nameB s = true
  | .un op a => (op = 14 ∨ op = 15) ∧ a.ok
  | .idx s a => S3.nameB s = true ∧ a.ok
  | .bin op a b => (1 ≤ op ∧ op ≤ 13) ∧ a.ok ∧ b.ok
def Tr.nest : Tr → Nat
  | .un _ a => a.nest + 2
  | .idx _ a => a.nest + 1
  | .bin _ a b => max a.nest b.nest + 1
  | _ => 0
theorem nest_lev (t : Tr) : t.nest + 2 ≤ 2 * t.lev := by
  induction t <;> simp only [Tr.nest, Tr.lev] <;> omega

/-! ### depth -/
/-- Of the depth n at most. -/
def Gd (n : Nat) (e : Ex) : Prop := ∀ k, n ≤ k → S3.dep k e ≠ 0
theorem Gd.mono {n m : Nat} {e : Ex} (h : Gd n e) (hm : n ≤ m) : Gd m e := fun k hk => h k (by omega)
theorem Gd.exB {n : Nat} {e : Ex} (h : Gd n e) (hn : n ≤ 20) : S3.exB e = true := by unfold S3.exB; exact decide_eq_true (h 20 hn)
theorem gd_leaf {e : Ex} (hf : S3.fitB e = true) (ha : e.args = []) : Gd 1 e := by
  intro k hk
  obtain ⟨k, rfl⟩ : ∃ j, k = j + 1 := ⟨k - 1, by omega⟩
  rw [S3.dep, if_pos hf, ha]; simp [S3.deps, S3.depOf]
theorem gd_one {e a : Ex} {n : Nat} (hf : S3.fitB e = true) (ha : e.args = [a]) (h : Gd n a) : Gd (n + 1) e := by
  intro k hk
  obtain ⟨k, rfl⟩ : ∃ j, k = j + 1 := ⟨k - 1, by omega⟩
  have := h k (by omega)
  rw [S3.dep, if_pos hf, ha]; simp [S3.deps, S3.depOf, this]
theorem gd_two {e a b : Ex} {n m : Nat} (hf : S3.fitB e = true) (ha : e.args = [a, b]) (h : Gd n a) (h' : Gd m b) : Gd (max n m + 1) e := by
  intro k hk
  obtain ⟨k, rfl⟩ : ∃ j, k = j + 1 := ⟨k - 1, by omega⟩
  have h1 := h k (by omega)
  have h2 := h' k (by omega)
  rw [S3.dep, if_pos hf, ha]; simp [S3.deps, S3.depOf, h1, h2]
theorem nameB_ne {s : Bytes} (h : S3.nameB s = true) : s ≠ [] := by rintro rfl; simp [S3.nameB] at h
theorem fit_un {op : Int} (h : op = 14 ∨ op = 15) (a : Ex) : S3.fitB ⟨4, op, 0, [], [a]⟩ = true := by
  rcases h with rfl | rfl <;> simp [S3.fitB, S3.exRow, S3.rowFit, S3.howB]
theorem fit_bin {op : Int} (h : 1 ≤ op ∧ op ≤ 13) (a b : Ex) : S3.fitB ⟨5, op, 0, [], [a, b]⟩ = true := by
  simp [S3.fitB, S3.exRow, S3.rowFit, S3.howB, h]
theorem fit_idx {s : Bytes} (h : S3.nameB s = true) (a : Ex) : S3.fitB ⟨6, 0, 0, s, [a]⟩ = true := by
  simp [S3.fitB, S3.exRow, S3.rowFit, S3.howB, h, nameB_ne h]
theorem fit_var {s : Bytes} (h : S3.nameB s = true) : S3.fitB ⟨3, 0, 0, s, []⟩ = true := by
  simp [S3.fitB, S3.exRow, S3.rowFit, S3.howB, h, nameB_ne h]
theorem fit_len {s : Bytes} (h : S3.nameB s = true) : S3.fitB ⟨7, 0, 0, s, []⟩ = true := by
  simp [S3.fitB, S3.exRow, S3.rowFit, S3.howB, h, nameB_ne h]
theorem fit_num {n : Int} (h : 0 ≤ n) (h2 : n ≤ 9223372036854775807) : S3.fitB ⟨1, 0, n, [], []⟩ = true := by
  simp [S3.fitB, S3.exRow, S3.rowFit, S3.howB, h, h2]
theorem fit_bool (b : Bool) : S3.fitB ⟨2, 0, if b then 1 else 0, [], []⟩ = true := by
  cases b <;> simp [S3.fitB, S3.exRow, S3.rowFit, S3.howB]
theorem Tr.gd (t : Tr) (h : t.ok) : Gd t.lev t.ex := by
  induction t with
  | num n => exact gd_leaf (fit_num (by omega) (by have h : n ≤ 9223372036854775807 := h; omega)) rfl
  | bool b => exact gd_leaf (fit_bool b) rfl
  | len s => exact gd_leaf (fit_len h) rfl
  | var s => exact gd_leaf (fit_var h) rfl
  | un op a ih => exact gd_one (fit_un h.1 _) rfl (ih h.2)
  | idx s a ih => exact gd_one (fit_idx h.1 _) rfl (ih h.2)
  | bin op a b iha ihb => exact gd_two (fit_bin h.1 _ _) rfl (iha h.2.1) (ihb h.2.2)

/-! ### tokens at a place -/
theorem tk_at {l : TL} {i : Nat} {x : Int × Bytes} {r : TL} (h : l.drop i = x :: r) : tkAt l i = x ∧ i < l.length ∧ l.drop (i + 1) = r := by
  have hi : i < l.length := by
    rcases Nat.lt_or_ge i l.length with h1 | h1
    · exact h1
    · rw [List.drop_eq_nil_of_le h1] at h; cases h
  rw [List.drop_eq_getElem_cons hi] at h
  obtain ⟨h1, h2⟩ := List.cons.inj h
  exact ⟨by unfold tkAt; rw [List.getElem?_eq_getElem hi]; simpa using h1, hi, h2⟩
theorem sg_at {l : TL} {i : Nat} {s : Bytes} {r : TL} (h : l.drop i = (4, s) :: r) : sgAt l i = s := by
  unfold sgAt; rw [(tk_at h).1]; simp
theorem drop_add {l a b : TL} {i : Nat} (h : l.drop i = a ++ b) : l.drop (i + a.length) = b := by
  rw [← List.drop_drop, h, List.drop_left]
theorem signB_bin {op : Int} (h : 1 ≤ op ∧ op ≤ 13) : opB (signB op) = (op, (opB (signB op)).2) ∧ 1 ≤ (opB (signB op)).2 ∧ (opB (signB op)).2 ≤ 5 ∧ signB op ≠ [] := by
  have : op = 1 ∨ op = 2 ∨ op = 3 ∨ op = 4 ∨ op = 5 ∨ op = 6 ∨ op = 7 ∨ op = 8 ∨ op = 9 ∨ op = 10 ∨ op = 11 ∨ op = 12 ∨ op = 13 := by omega
  rcases this with rfl | rfl | rfl | rfl | rfl | rfl | rfl | rfl | rfl | rfl | rfl | rfl | rfl <;> decide
theorem numT_dec (n : Nat) (h : n ≤ 9223372036854775807) : numT (Lib.decDigits n) = some (n : Int) := by
  have h1 : N2.numParse (Lib.itoa (n : Int)) = some (n : Int) := N2.numParse_itoa (by unfold N2.okI; omega)
  rw [itoa_nn] at h1
  unfold numT
  rw [h1]
  simp
/-- What stands behind an expression: no operator with two operands. -/
def endB (l : TL) (i : Nat) : Prop := (opB (sgAt l i)).2 < 1
theorem endB_lop {l : TL} {i : Nat} (h : endB l i) (e : Ex) (d : Nat) (m : Int) (hm : 1 ≤ m) : lopR l e i d m = .ok e i := lopR_end l e i d m (by unfold endB at h; omega)

theorem opdR_num {l : TL} {i : Nat} {t : Bytes} (h : tkAt l i = (2, t)) (d : Nat) (hi : i ≤ l.length) : opdR l i d = numR l i := by
  rw [opdR_eq l i d hi, if_pos (by rw [h])]
theorem opdR_key {l : TL} {i : Nat} {t : Bytes} (h : tkAt l i = (3, t)) (d : Nat) (hi : i ≤ l.length) : opdR l i d = keyR l i := by
  rw [opdR_eq l i d hi, if_neg (by rw [h]; simp), if_neg (by rw [h]; simp), if_pos (by rw [h])]
theorem opdR_name {l : TL} {i : Nat} {t : Bytes} (h : tkAt l i = (1, t)) (hn : S3.nameB t = true) (d : Nat) (hi : i ≤ l.length) : opdR l i d =
    if sgAt l (i + 1) = [91] then
      if 40 ≤ d then .bad (i + 1) 8 else (binR l (i + 2) (d + 1) 1).bind fun e n => if sgAt l n = [93] then madeR ⟨6, 0, 0, t, [e]⟩ (n + 1) else .bad n 7
    else .ok ⟨3, 0, 0, t, []⟩ (i + 1) := by
  rw [opdR_eq l i d hi, if_neg (by rw [h]; simp), if_pos (by rw [h]), h, if_pos hn]
theorem opdR_un {l : TL} {i : Nat} {op : Int} (hop : op = 14 ∨ op = 15) (h : tkAt l i = (4, signB op)) (d : Nat) (hi : i ≤ l.length) (hd : d < 40) : opdR l i d = (opdR l (i + 1) (d + 1)).bind fun e n => madeR ⟨4, op, 0, [], [e]⟩ n := by
  have hs : sgAt l i = signB op := by unfold sgAt; rw [h]; rfl
  rw [opdR_eq l i d hi, if_neg (by rw [h]; simp), if_neg (by rw [h]; simp), if_neg (by rw [h]; simp), hs]
  rcases hop with rfl | rfl
  · rw [if_pos (by decide), if_neg (by omega)]
  · rw [if_neg (by decide), if_pos (by decide), if_neg (by omega)]
theorem opdR_par {l : TL} {i : Nat} (h : tkAt l i = (4, [40])) (d : Nat) (hi : i ≤ l.length) (hd : d < 40) : opdR l i d = (binR l (i + 1) (d + 1) 1).bind fun e n => if sgAt l n = [41] then .ok e (n + 1) else .bad n 7 := by
  have hs : sgAt l i = [40] := by unfold sgAt; rw [h]; rfl
  rw [opdR_eq l i d hi, if_neg (by rw [h]; simp), if_neg (by rw [h]; simp), if_neg (by rw [h]; simp), hs, if_neg (by decide), if_neg (by decide), if_pos rfl, if_neg (by omega)]

/-! ### the tree is found again -/
theorem parse_tree (l : TL) (t : Tr) : t.ok → t.lev ≤ 20 →
    (∀ i d post, l.drop i = parT t.comp t.tk ++ post → d + t.nest + 1 ≤ 40 → sgAt l (i + (parT t.comp t.tk).length) ≠ [91] → opdR l i d = .ok t.ex (i + (parT t.comp t.tk).length)) ∧
    (∀ i d post m, 1 ≤ m → l.drop i = t.tk ++ post → d + t.nest ≤ 40 → m = 1 ∨ t.comp = false → endB l (i + t.tk.length) → sgAt l (i + t.tk.length) ≠ [91] → binR l i d m = .ok t.ex (i + t.tk.length)) := by
  have wrap : ∀ t : Tr, (∀ i d post m, 1 ≤ m → l.drop i = t.tk ++ post → d + t.nest ≤ 40 → m = 1 ∨ t.comp = false → endB l (i + t.tk.length) → sgAt l (i + t.tk.length) ≠ [91] → binR l i d m = .ok t.ex (i + t.tk.length)) → t.comp = true →
      ∀ i d post, l.drop i = parT t.comp t.tk ++ post → d + t.nest + 1 ≤ 40 → opdR l i d = .ok t.ex (i + (parT t.comp t.tk).length) := by
    intro t hb hc i d post h hd
    rw [hc, parT, if_pos rfl] at h ⊢
    obtain ⟨h1, h2, h3⟩ := tk_at h
    have hs := sg_at (s := [40]) h
    have h3' : l.drop (i + 1) = t.tk ++ ([tShut] ++ post) := by rw [h3]; simp
    have h4 := drop_add h3'
    have hs2 := sg_at (s := [41]) (r := post) (by rw [h4]; rfl)
    have := hb (i + 1) (d + 1) _ 1 (by omega) h3' (by omega) (.inl rfl) (by unfold endB; rw [hs2]; decide) (by rw [hs2]; decide)
    rw [opdR_par h1 d (by omega) (by omega), this]
    simp only [Res.bind]
    rw [hs2, if_pos rfl]
    congr 1
    simp; omega
  have plain : ∀ t : Tr, t.comp = false → (∀ i d post, l.drop i = parT t.comp t.tk ++ post → d + t.nest + 1 ≤ 41 → sgAt l (i + (parT t.comp t.tk).length) ≠ [91] → opdR l i d = .ok t.ex (i + (parT t.comp t.tk).length)) →
      ∀ i d post m, 1 ≤ m → l.drop i = t.tk ++ post → d + t.nest ≤ 40 → m = 1 ∨ t.comp = false → endB l (i + t.tk.length) → sgAt l (i + t.tk.length) ≠ [91] → t.tk ≠ [] → binR l i d m = .ok t.ex (i + t.tk.length) := by
    intro t hc ho i d post m hm h hd _ he hs hne
    have e : parT t.comp t.tk = t.tk := by rw [hc]; rfl
    rw [e] at ho
    have hi : i ≤ l.length := by
      cases hh : t.tk with
      | nil => exact absurd hh hne
      | cons x r => rw [hh] at h; exact Nat.le_of_lt (tk_at h).2.1
    rw [binR_eq l i d m hm hi, ho i d post h (by omega) hs]
    exact endB_lop he _ _ _ hm
  induction t with
  | num n =>
    intro hok _
    have ho : ∀ i d post, l.drop i = parT (Tr.num n).comp (Tr.num n).tk ++ post → d + (Tr.num n).nest + 1 ≤ 41 → sgAt l (i + (parT (Tr.num n).comp (Tr.num n).tk).length) ≠ [91] → opdR l i d = .ok (Tr.num n).ex (i + (parT (Tr.num n).comp (Tr.num n).tk).length) := by
      intro i d post h _ _
      obtain ⟨h1, h2, h3⟩ := tk_at (x := (2, Lib.decDigits n)) (r := post) h
      rw [opdR_num h1 d (by omega)]
      unfold numR
      rw [h1]
      simp only
      rw [numT_dec n hok]; rfl
    exact ⟨fun i d post h hd hs => ho i d post h (by omega) hs, fun i d post m hm h hd hc he hs => plain _ rfl ho i d post m hm h hd hc he hs (by simp [Tr.tk])⟩
  | bool b =>
    intro hok _
    have ho : ∀ i d post, l.drop i = parT (Tr.bool b).comp (Tr.bool b).tk ++ post → d + (Tr.bool b).nest + 1 ≤ 41 → sgAt l (i + (parT (Tr.bool b).comp (Tr.bool b).tk).length) ≠ [91] → opdR l i d = .ok (Tr.bool b).ex (i + (parT (Tr.bool b).comp (Tr.bool b).tk).length) := by
      intro i d post h _ _
      obtain ⟨h1, h2, h3⟩ := tk_at (x := (3, if b then [116, 114, 117, 101] else [102, 97, 108, 115, 101])) (r := post) h
      rw [opdR_key h1 d (by omega)]
      unfold keyR
      rw [h1]
      cases b <;> rfl
    exact ⟨fun i d post h hd hs => ho i d post h (by omega) hs, fun i d post m hm h hd hc he hs => plain _ rfl ho i d post m hm h hd hc he hs (by simp [Tr.tk])⟩
  | len s =>
    intro hok _
    have ho : ∀ i d post, l.drop i = parT (Tr.len s).comp (Tr.len s).tk ++ post → d + (Tr.len s).nest + 1 ≤ 41 → sgAt l (i + (parT (Tr.len s).comp (Tr.len s).tk).length) ≠ [91] → opdR l i d = .ok (Tr.len s).ex (i + (parT (Tr.len s).comp (Tr.len s).tk).length) := by
      intro i d post h _ _
      obtain ⟨h1, h2, h3⟩ := tk_at (x := (3, [108, 101, 110])) (r := tOpen :: (1, s) :: tShut :: post) h
      obtain ⟨h4, h5, h6⟩ := tk_at h3
      obtain ⟨h7, h8, h9⟩ := tk_at h6
      have s1 := sg_at (s := [40]) h3
      have s2 := sg_at (s := [41]) h9
      rw [opdR_key h1 d (by omega)]
      unfold keyR lenR
      rw [h1]
      simp only
      rw [if_neg (by decide), if_neg (by decide), if_pos trivial, s1, if_pos rfl, h7]
      have hk : S3.nameB s = true := hok
      rw [show nmTok (1, s) = true by simp [nmTok, hk], if_pos rfl, s2, if_pos rfl]
      rfl
    exact ⟨fun i d post h hd hs => ho i d post h (by omega) hs, fun i d post m hm h hd hc he hs => plain _ rfl ho i d post m hm h hd hc he hs (by simp [Tr.tk])⟩
  | var s =>
    intro hok _
    have ho : ∀ i d post, l.drop i = parT (Tr.var s).comp (Tr.var s).tk ++ post → d + (Tr.var s).nest + 1 ≤ 41 → sgAt l (i + (parT (Tr.var s).comp (Tr.var s).tk).length) ≠ [91] → opdR l i d = .ok (Tr.var s).ex (i + (parT (Tr.var s).comp (Tr.var s).tk).length) := by
      intro i d post h _ hs
      have hk : S3.nameB s = true := hok
      obtain ⟨h1, h2, h3⟩ := tk_at (x := (1, s)) (r := post) h
      rw [opdR_name h1 hk d (by omega), if_neg (show ¬ sgAt l (i + 1) = [91] from hs)]
      rfl
    exact ⟨fun i d post h hd hs => ho i d post h (by omega) hs, fun i d post m hm h hd hc he hs => plain _ rfl ho i d post m hm h hd hc he hs (by simp [Tr.tk])⟩
  | un op a ih =>
    intro hok hlev
    obtain ⟨hop, hoka⟩ := hok
    simp only [Tr.lev] at hlev
    obtain ⟨iho, ihb⟩ := ih hoka (by omega)
    have hb : ∀ i d post m, 1 ≤ m → l.drop i = (Tr.un op a).tk ++ post → d + (Tr.un op a).nest ≤ 40 → m = 1 ∨ (Tr.un op a).comp = false → endB l (i + (Tr.un op a).tk.length) → sgAt l (i + (Tr.un op a).tk.length) ≠ [91] → binR l i d m = .ok (Tr.un op a).ex (i + (Tr.un op a).tk.length) := by
      intro i d post m hm h hd _ he hs
      have h : l.drop i = (4, signB op) :: (parT a.comp a.tk ++ post) := h
      simp only [Tr.nest] at hd
      obtain ⟨h1, h2, h3⟩ := tk_at h
      have hsg := sg_at h
      have hlen : i + (Tr.un op a).tk.length = i + 1 + (parT a.comp a.tk).length := by simp [Tr.tk]; omega
      rw [hlen] at he hs ⊢
      have ho := iho (i + 1) (d + 1) post h3 (by omega) hs
      have hopd : opdR l i d = .ok (Tr.un op a).ex (i + 1 + (parT a.comp a.tk).length) := by
        have hx : S3.exB ⟨4, op, 0, [], [a.ex]⟩ = true := (Tr.gd (.un op a) ⟨hop, hoka⟩).exB hlev
        rw [opdR_un hop h1 d (by omega) (by omega), ho]
        simp only [Res.bind, madeR]
        rw [if_pos hx]; rfl
      rw [binR_eq l i d m hm (by omega), hopd]
      exact endB_lop he _ _ _ hm
    exact ⟨fun i d post h hd _ => wrap _ hb rfl i d post h hd, hb⟩
  | idx s a ih =>
    intro hok hlev
    obtain ⟨hk, hoka⟩ := hok
    simp only [Tr.lev] at hlev
    obtain ⟨iho, ihb⟩ := ih hoka (by omega)
    have ho : ∀ i d post, l.drop i = parT (Tr.idx s a).comp (Tr.idx s a).tk ++ post → d + (Tr.idx s a).nest + 1 ≤ 41 → sgAt l (i + (parT (Tr.idx s a).comp (Tr.idx s a).tk).length) ≠ [91] → opdR l i d = .ok (Tr.idx s a).ex (i + (parT (Tr.idx s a).comp (Tr.idx s a).tk).length) := by
      intro i d post h hd _
      have h : l.drop i = (1, s) :: (4, [91]) :: (a.tk ++ ([(4, [93])] ++ post)) := by rw [h]; simp [parT, Tr.comp, Tr.tk]
      simp only [Tr.nest] at hd
      obtain ⟨h1, h2, h3⟩ := tk_at h
      obtain ⟨h4, h5, h6⟩ := tk_at h3
      have s1 := sg_at h3
      have h7 := drop_add h6
      have s2 := sg_at (s := [93]) (r := post) (by rw [h7]; rfl)
      have hx : S3.exB ⟨6, 0, 0, s, [a.ex]⟩ = true := (Tr.gd (.idx s a) ⟨hk, hoka⟩).exB hlev
      have hB := ihb (i + 2) (d + 1) _ 1 (by omega) h6 (by omega) (.inl rfl) (by unfold endB; rw [s2]; decide) (by rw [s2]; decide)
      rw [opdR_name h1 hk d (by omega), s1, if_pos rfl, if_neg (by omega), hB]
      simp only [Res.bind]
      rw [s2, if_pos rfl]
      unfold madeR
      rw [if_pos hx]
      simp only [Tr.ex, Tr.comp, Tr.tk, parT]
      congr 1
      simp; omega
    exact ⟨fun i d post h hd hs => ho i d post h (by omega) hs, fun i d post m hm h hd hc he hs => plain _ rfl ho i d post m hm h hd hc he hs (by simp [Tr.tk])⟩
  | bin op a b iha ihb =>
    intro hok hlev
    obtain ⟨hop, hoka, hokb⟩ := hok
    simp only [Tr.lev] at hlev
    obtain ⟨iho, _⟩ := iha hoka (by omega)
    obtain ⟨ihp, _⟩ := ihb hokb (by omega)
    have hb : ∀ i d post m, 1 ≤ m → l.drop i = (Tr.bin op a b).tk ++ post → d + (Tr.bin op a b).nest ≤ 40 → m = 1 ∨ (Tr.bin op a b).comp = false → endB l (i + (Tr.bin op a b).tk.length) → sgAt l (i + (Tr.bin op a b).tk.length) ≠ [91] → binR l i d m = .ok (Tr.bin op a b).ex (i + (Tr.bin op a b).tk.length) := by
      intro i d post m hm h hd hm1 he hs
      obtain rfl : m = 1 := by
        rcases hm1 with h0 | h0
        · exact h0
        · cases h0
      have h : l.drop i = parT a.comp a.tk ++ ((4, signB op) :: (parT b.comp b.tk ++ post)) := by rw [h]; simp [Tr.tk]
      simp only [Tr.nest] at hd
      have h1 := drop_add h
      obtain ⟨h2, h3, h4⟩ := tk_at h1
      have sop := sg_at h1
      obtain ⟨q1, q2, q3, q4⟩ := signB_bin hop
      have hnb : signB op ≠ [91] := by
        intro e; rw [e] at q2; exact absurd q2 (by decide)
      have hlen : i + (Tr.bin op a b).tk.length = i + (parT a.comp a.tk).length + 1 + (parT b.comp b.tk).length := by simp [Tr.tk]; omega
      rw [hlen] at he hs ⊢
      have ha := iho i d _ h (by omega) (by rw [sop]; exact hnb)
      have hB := ihp (i + (parT a.comp a.tk).length + 1) d post h4 (by omega) hs
      have hx : S3.exB ⟨5, op, 0, [], [a.ex, b.ex]⟩ = true := (Tr.gd (.bin op a b) ⟨hop, hoka, hokb⟩).exB hlev
      rw [binR_eq l i d 1 (by omega) (by omega), ha]
      simp only [Res.bind]
      rw [lopR_eq l _ _ d 1 (by
        have := (opdR_within l i d (by omega)); rw [ha] at this; simp only [Res.within] at this; omega) (by omega) (by rw [sop]; omega), sop, binR_eq l _ d _ (by omega) (by omega), hB]
      simp only [Res.bind]
      rw [endB_lop he _ _ _ (by omega)]
      simp only [madeR]
      rw [show (opB (signB op)).1 = op by rw [q1], if_pos hx]
      simp only
      exact endB_lop he _ _ _ (by omega)
    exact ⟨fun i d post h hd _ => wrap _ hb rfl i d post h hd, hb⟩
end Go.Proofs.YtipepljmfgjbpaaGreatDoor.E5

namespace Go.Proofs.YtipepljmfgjbpaaGreatDoor.E5
open Go Go.Proofs.YtipepljmfgjbpaaGreatDoor

/-- Nothing, or a token with which no expression goes on. -/
def StopL (r : TL) : Prop := r = [] ∨ ∃ t x, r = t :: x ∧ (t = (4, [59]) ∨ t = (3, [102, 117, 110, 99]))
theorem StopL.tk {l rest : TL} {i : Nat} (h : StopL rest) (hd : l.drop i = rest) : tkAt l i = (0, []) ∨ tkAt l i = (4, [59]) ∨ tkAt l i = (3, [102, 117, 110, 99]) := by
  rcases h with rfl | ⟨t, x, rfl, h⟩
  · left
    unfold tkAt
    rw [List.getElem?_eq_none (by simpa using List.drop_eq_nil_iff.1 hd)]; rfl
  · right; rw [(tk_at hd).1]; exact h
theorem StopL.sg {l rest : TL} {i : Nat} (h : StopL rest) (hd : l.drop i = rest) : sgAt l i = [] ∨ sgAt l i = [59] := by
  unfold sgAt
  rcases h.tk hd with h | h | h <;> rw [h] <;> simp
theorem StopL.endB {l rest : TL} {i : Nat} (h : StopL rest) (hd : l.drop i = rest) : endB l i := by
  unfold E5.endB
  rcases h.sg hd with h | h <;> rw [h] <;> decide
theorem StopL.no {l rest : TL} {i : Nat} (h : StopL rest) (hd : l.drop i = rest) {s : Bytes} (h1 : s ≠ []) (h2 : s ≠ [59]) : sgAt l i ≠ s := by
  rcases h.sg hd with h | h <;> rw [h]
  · exact fun e => h1 e.symm
  · exact fun e => h2 e.symm
theorem StopL.opd {l rest : TL} {i : Nat} (h : StopL rest) (hd : l.drop i = rest) (hi : i ≤ l.length) (d : Nat) : opdR l i d = .bad i 7 := by
  have hk : (tkAt l i).1 = 0 ∨ (tkAt l i).1 = 4 ∨ (tkAt l i).1 = 3 := by rcases h.tk hd with h | h | h <;> rw [h] <;> simp
  by_cases h3 : (tkAt l i).1 = 3
  · have ht : tkAt l i = (3, [102, 117, 110, 99]) := by
      rcases h.tk hd with h | h | h
      · rw [h] at h3; simp at h3
      · rw [h] at h3; simp at h3
      · exact h
    rw [opdR_eq l i d hi, if_neg (by omega), if_neg (by omega), if_pos h3]
    unfold keyR
    rw [ht]
    rfl
  · rw [opdR_eq l i d hi, if_neg (by omega), if_neg (by omega), if_neg h3, if_neg (h.no hd (by simp) (by decide)), if_neg (h.no hd (by simp) (by decide)), if_neg (h.no hd (by simp) (by decide))]
theorem StopL.bin {l rest : TL} {i : Nat} (h : StopL rest) (hd : l.drop i = rest) (hi : i ≤ l.length) (d : Nat) (m : Int) (hm : 1 ≤ m) : binR l i d m = .bad i 7 := by
  rw [binR_eq l i d m hm hi, h.opd hd hi]; rfl
/-- What is cut off at its token c, index k: a shorter expression, or its next token is missing. -/
def CutR (ts : TL) (c n k : Nat) (r : Res) : Prop := r = .bad k 7 ∨ ∃ e, r = .ok e k ∧ Gd n e ∧ (ts[c]?).map (·.1) = some 4
def Cut (ts : TL) (c i : Nat) (f : TL → Res) (n : Nat) : Prop := ∃ r, CutR ts c n (i + c) r ∧ ∀ l rest, StopL rest → i ≤ l.length → l.drop i = ts.take c ++ rest → f l = r
theorem take_short {a b : TL} {c : Nat} (h : c ≤ a.length) : (a ++ b).take c = a.take c := List.take_append_of_le_length h
theorem take_long {a b : TL} {c : Nat} (h : a.length ≤ c) : (a ++ b).take c = a ++ b.take (c - a.length) := by
  rw [List.take_append, List.take_of_length_le h]

theorem cut_tree (t : Tr) : t.ok → t.lev ≤ 20 →
    (∀ i d c, c < (parT t.comp t.tk).length → d + t.nest + 1 ≤ 40 → Cut (parT t.comp t.tk) c i (fun l => opdR l i d) t.lev) ∧
    (∀ i d c m, 1 ≤ m → c < t.tk.length → d + t.nest ≤ 40 → m = 1 ∨ t.comp = false → Cut t.tk c i (fun l => binR l i d m) t.lev) := by
  have zero : ∀ (ts : TL) i d n, Cut ts 0 i (fun l => opdR l i d) n := fun ts i d n =>
    ⟨.bad i 7, .inl rfl, fun l rest hs hi hd => hs.opd (by simpa using hd) hi d⟩
  have wrap : ∀ t : Tr, t.ok → t.lev ≤ 20 → (∀ i d c m, 1 ≤ m → c < t.tk.length → d + t.nest ≤ 40 → m = 1 ∨ t.comp = false → Cut t.tk c i (fun l => binR l i d m) t.lev) → t.comp = true →
      ∀ i d c, c < (parT t.comp t.tk).length → d + t.nest + 1 ≤ 40 → Cut (parT t.comp t.tk) c i (fun l => opdR l i d) t.lev := by
    intro t hok hlev hb hcm i d c hc hd
    rw [hcm, parT, if_pos rfl] at hc ⊢
    cases c with
    | zero => exact zero _ _ _ _
    | succ c =>
      simp only [List.length_cons, List.length_append, List.length_nil] at hc
      refine ⟨.bad (i + (c + 1)) 7, .inl rfl, fun l rest hs hi hl => ?_⟩
      rw [List.take_succ_cons, List.cons_append] at hl
      obtain ⟨h1, h2, h3⟩ := tk_at hl
      show opdR l i d = _
      rw [opdR_par h1 d hi (by omega)]
      have he : i + 1 + c = i + (c + 1) := by omega
      by_cases hlt : c < t.tk.length
      · rw [take_short (by omega)] at h3
        obtain ⟨r, hr, hf⟩ := hb (i + 1) (d + 1) c 1 (by omega) hlt (by omega) (.inl rfl)
        have hf := hf l rest hs (by omega) h3
        simp only at hf
        rw [hf]
        have hk : l.drop (i + 1 + c) = rest := by
          have := drop_add h3
          rwa [List.length_take, Nat.min_eq_left (by omega)] at this
        rcases hr with rfl | ⟨e, rfl, _, _⟩
        · simp only [Res.bind, he]
        · simp only [Res.bind, he]
          rw [he] at hk
          rw [if_neg (hs.no hk (by simp) (by decide))]
      · obtain rfl : c = t.tk.length := by omega
        rw [take_long (Nat.le_refl _), Nat.sub_self, List.take_zero, List.append_nil] at h3
        have hk := drop_add h3
        have := (parse_tree l t hok hlev).2 (i + 1) (d + 1) rest 1 (by omega) h3 (by omega) (.inl rfl) (hs.endB hk) (hs.no hk (by simp) (by decide))
        rw [this]
        simp only [Res.bind]
        rw [if_neg (hs.no hk (by simp) (by decide)), he]
  have plain : ∀ t : Tr, t.comp = false → (∀ i d c, c < (parT t.comp t.tk).length → d + t.nest + 1 ≤ 41 → Cut (parT t.comp t.tk) c i (fun l => opdR l i d) t.lev) →
      ∀ i d c m, 1 ≤ m → c < t.tk.length → d + t.nest ≤ 40 → m = 1 ∨ t.comp = false → Cut t.tk c i (fun l => binR l i d m) t.lev := by
    intro t hcm ho i d c m hm hc hd _
    have e : parT t.comp t.tk = t.tk := by rw [hcm]; rfl
    rw [e] at ho
    obtain ⟨r, hr, hf⟩ := ho i d c hc (by omega)
    refine ⟨r, hr, fun l rest hs hi hl => ?_⟩
    have hf := hf l rest hs hi hl
    simp only at hf ⊢
    rw [binR_eq l i d m hm hi, hf]
    have hk : l.drop (i + c) = rest := by
      have := drop_add hl
      rwa [List.length_take, Nat.min_eq_left (by omega)] at this
    rcases hr with rfl | ⟨e, rfl, _, _⟩
    · rfl
    · exact endB_lop (hs.endB hk) _ _ _ hm
  induction t with
  | num n =>
    intro hok _
    have ho : ∀ i d c, c < (parT (Tr.num n).comp (Tr.num n).tk).length → d + (Tr.num n).nest + 1 ≤ 41 → Cut (parT (Tr.num n).comp (Tr.num n).tk) c i (fun l => opdR l i d) (Tr.num n).lev := by
      intro i d c hc _
      obtain rfl : c = 0 := by simp [parT, Tr.comp, Tr.tk] at hc; omega
      exact zero _ _ _ _
    exact ⟨fun i d c hc hd => ho i d c hc (by omega), plain _ rfl ho⟩
  | bool b =>
    intro hok _
    have ho : ∀ i d c, c < (parT (Tr.bool b).comp (Tr.bool b).tk).length → d + (Tr.bool b).nest + 1 ≤ 41 → Cut (parT (Tr.bool b).comp (Tr.bool b).tk) c i (fun l => opdR l i d) (Tr.bool b).lev := by
      intro i d c hc _
      obtain rfl : c = 0 := by simp [parT, Tr.comp, Tr.tk] at hc; omega
      exact zero _ _ _ _
    exact ⟨fun i d c hc hd => ho i d c hc (by omega), plain _ rfl ho⟩
  | var s =>
    intro hok _
    have ho : ∀ i d c, c < (parT (Tr.var s).comp (Tr.var s).tk).length → d + (Tr.var s).nest + 1 ≤ 41 → Cut (parT (Tr.var s).comp (Tr.var s).tk) c i (fun l => opdR l i d) (Tr.var s).lev := by
      intro i d c hc _
      obtain rfl : c = 0 := by simp [parT, Tr.comp, Tr.tk] at hc; omega
      exact zero _ _ _ _
    exact ⟨fun i d c hc hd => ho i d c hc (by omega), plain _ rfl ho⟩
  | len s =>
    intro hok _
    have hn : S3.nameB s = true := hok
    have ho : ∀ i d c, c < (parT (Tr.len s).comp (Tr.len s).tk).length → d + (Tr.len s).nest + 1 ≤ 41 → Cut (parT (Tr.len s).comp (Tr.len s).tk) c i (fun l => opdR l i d) (Tr.len s).lev := by
      intro i d c hc _
      have hc : c < 4 := by simpa [parT, Tr.comp, Tr.tk] using hc
      cases c with
      | zero => exact zero _ _ _ _
      | succ c =>
        refine ⟨.bad (i + (c + 1)) 7, .inl rfl, fun l rest hs hi hl => ?_⟩
        obtain ⟨h1, h2, h3⟩ := tk_at (x := (3, [108, 101, 110])) (r := ([tOpen, (1, s), tShut] : TL).take c ++ rest) hl
        show opdR l i d = _
        rw [opdR_key h1 d hi]
        unfold keyR lenR
        rw [h1]
        simp only
        rw [if_neg (by decide), if_neg (by decide), if_pos trivial]
        match c, hc with
        | 0, _ => rw [if_neg (hs.no (i := i + 1) (by simpa using h3) (by simp) (by decide))]
        | 1, _ =>
          have h3 : l.drop (i + 1) = (4, [40]) :: rest := h3
          obtain ⟨h4, h5, h6⟩ := tk_at h3
          rw [if_pos (sg_at h3), if_neg]
          rcases hs.tk h6 with h7 | h7 | h7 <;> rw [h7] <;> simp [nmTok]
        | 2, _ =>
          have h3 : l.drop (i + 1) = (4, [40]) :: (1, s) :: rest := h3
          obtain ⟨h4, h5, h6⟩ := tk_at h3
          obtain ⟨h7, h8, h9⟩ := tk_at h6
          rw [if_pos (sg_at h3), if_pos (by rw [h7]; simp [nmTok, hn]), if_neg (hs.no h9 (by simp) (by decide))]
    exact ⟨fun i d c hc hd => ho i d c hc (by omega), plain _ rfl ho⟩
  | un op a ih =>
    intro hok hlev
    obtain ⟨hop, hoka⟩ := hok
    simp only [Tr.lev] at hlev
    obtain ⟨iho, ihb⟩ := ih hoka (by omega)
    have hb : ∀ i d c m, 1 ≤ m → c < (Tr.un op a).tk.length → d + (Tr.un op a).nest ≤ 40 → m = 1 ∨ (Tr.un op a).comp = false → Cut (Tr.un op a).tk c i (fun l => binR l i d m) (Tr.un op a).lev := by
      intro i d c m hm hc hd _
      cases c with
      | zero => exact ⟨.bad i 7, .inl rfl, fun l rest hs hi hl => hs.bin (by simpa using hl) hi d m hm⟩
      | succ c =>
        simp only [Tr.tk, List.length_cons] at hc
        simp only [Tr.nest] at hd
        obtain ⟨r, hr, hf⟩ := iho (i + 1) (d + 1) c (by omega) (by omega)
        have he : i + 1 + c = i + (c + 1) := by omega
        rw [he] at hr
        refine ⟨r.bind fun e n => .ok ⟨4, op, 0, [], [e]⟩ n, ?_, fun l rest hs hi hl => ?_⟩
        · rcases hr with rfl | ⟨e, rfl, h1, h2⟩
          · exact .inl rfl
          · exact .inr ⟨_, rfl, gd_one (fit_un hop _) rfl h1, by simpa [Tr.tk] using h2⟩
        · have hl : l.drop i = (4, signB op) :: ((parT a.comp a.tk).take c ++ rest) := hl
          obtain ⟨h1, h2, h3⟩ := tk_at hl
          have hf := hf l rest hs (by omega) h3
          have hk : l.drop (i + (c + 1)) = rest := by
            have := drop_add h3
            rwa [List.length_take, Nat.min_eq_left (by omega), he] at this
          simp only at hf ⊢
          rw [binR_eq l i d m hm hi, opdR_un hop h1 d hi (by omega), hf]
          rcases hr with rfl | ⟨e, rfl, h4, h5⟩
          · rfl
          · simp only [Res.bind, madeR]
            rw [if_pos ((gd_one (fit_un hop e) rfl h4).exB hlev)]
            simp only
            exact endB_lop (hs.endB hk) _ _ _ hm
    exact ⟨wrap _ ⟨hop, hoka⟩ hlev hb rfl, hb⟩
  | idx s a ih =>
    intro hok hlev
    obtain ⟨hn, hoka⟩ := hok
    simp only [Tr.lev] at hlev
    obtain ⟨iho, ihb⟩ := ih hoka (by omega)
    have ho : ∀ i d c, c < (parT (Tr.idx s a).comp (Tr.idx s a).tk).length → d + (Tr.idx s a).nest + 1 ≤ 41 → Cut (parT (Tr.idx s a).comp (Tr.idx s a).tk) c i (fun l => opdR l i d) (Tr.idx s a).lev := by
      intro i d c hc hd
      have et : parT (Tr.idx s a).comp (Tr.idx s a).tk = (1, s) :: (4, [91]) :: (a.tk ++ [(4, [93])]) := rfl
      rw [et] at hc ⊢
      simp only [Tr.nest] at hd
      simp only [List.length_cons, List.length_append, List.length_nil] at hc
      match c with
      | 0 => exact zero _ _ _ _
      | 1 =>
        refine ⟨.ok ⟨3, 0, 0, s, []⟩ (i + 1), .inr ⟨_, rfl, (gd_leaf (fit_var hn) rfl).mono (by simp only [Tr.lev]; omega), rfl⟩, fun l rest hs hi hl => ?_⟩
        have hl : l.drop i = (1, s) :: rest := hl
        obtain ⟨h1, h2, h3⟩ := tk_at hl
        show opdR l i d = _
        rw [opdR_name h1 hn d hi, if_neg (hs.no h3 (by simp) (by decide))]
      | c + 2 =>
        refine ⟨.bad (i + (c + 2)) 7, .inl rfl, fun l rest hs hi hl => ?_⟩
        have hl : l.drop i = (1, s) :: (4, [91]) :: ((a.tk ++ [(4, [93])]).take c ++ rest) := hl
        obtain ⟨h1, h2, h3⟩ := tk_at hl
        obtain ⟨h4, h5, h6⟩ := tk_at h3
        have h6 : l.drop (i + 2) = _ := h6
        have he : i + 2 + c = i + (c + 2) := by omega
        show opdR l i d = _
        rw [opdR_name h1 hn d hi, if_pos (sg_at h3), if_neg (by omega)]
        by_cases hlt : c < a.tk.length
        · rw [take_short (by omega)] at h6
          obtain ⟨r, hr, hf⟩ := ihb (i + 2) (d + 1) c 1 (by omega) hlt (by omega) (.inl rfl)
          have hf := hf l rest hs (by omega) h6
          simp only at hf
          rw [hf]
          have hk : l.drop (i + 2 + c) = rest := by
            have := drop_add h6
            rwa [List.length_take, Nat.min_eq_left (by omega)] at this
          rcases hr with rfl | ⟨e, rfl, _, _⟩
          · simp only [Res.bind, he]
          · simp only [Res.bind, he]
            rw [he] at hk
            rw [if_neg (hs.no hk (by simp) (by decide))]
        · obtain rfl : c = a.tk.length := by omega
          rw [take_long (Nat.le_refl _), Nat.sub_self, List.take_zero, List.append_nil] at h6
          have hk := drop_add h6
          have := (parse_tree l a hoka (by omega)).2 (i + 2) (d + 1) rest 1 (by omega) h6 (by omega) (.inl rfl) (hs.endB hk) (hs.no hk (by simp) (by decide))
          rw [this]
          simp only [Res.bind]
          rw [if_neg (hs.no hk (by simp) (by decide)), he]
    exact ⟨fun i d c hc hd => ho i d c hc (by omega), plain _ rfl ho⟩
  | bin op a b iha ihb =>
    intro hok hlev
    obtain ⟨hop, hoka, hokb⟩ := hok
    simp only [Tr.lev] at hlev
    obtain ⟨iho, _⟩ := iha hoka (by omega)
    obtain ⟨ihp, _⟩ := ihb hokb (by omega)
    obtain ⟨q1, q2, q3, q4⟩ := signB_bin hop
    have hnb : signB op ≠ [91] := by
      intro e; rw [e] at q2; exact absurd q2 (by decide)
    have hb : ∀ i d c m, 1 ≤ m → c < (Tr.bin op a b).tk.length → d + (Tr.bin op a b).nest ≤ 40 → m = 1 ∨ (Tr.bin op a b).comp = false → Cut (Tr.bin op a b).tk c i (fun l => binR l i d m) (Tr.bin op a b).lev := by
      intro i d c m hm hc hd hm1
      obtain rfl : m = 1 := by
        rcases hm1 with h0 | h0
        · exact h0
        · cases h0
      have et : (Tr.bin op a b).tk = parT a.comp a.tk ++ ((4, signB op) :: parT b.comp b.tk) := rfl
      rw [et] at hc ⊢
      simp only [Tr.nest] at hd
      simp only [List.length_cons, List.length_append] at hc
      by_cases hca : c < (parT a.comp a.tk).length
      · obtain ⟨r, hr, hf⟩ := iho i d c hca (by omega)
        refine ⟨r, ?_, fun l rest hs hi hl => ?_⟩
        · rcases hr with rfl | ⟨e, rfl, h1, h2⟩
          · exact .inl rfl
          · exact .inr ⟨_, rfl, h1.mono (by simp only [Tr.lev]; omega), by rw [List.getElem?_append_left hca]; exact h2⟩
        · rw [take_short (by omega)] at hl
          have hf := hf l rest hs hi hl
          have hk : l.drop (i + c) = rest := by
            have := drop_add hl
            rwa [List.length_take, Nat.min_eq_left (by omega)] at this
          simp only at hf ⊢
          rw [binR_eq l i d 1 hm hi, hf]
          rcases hr with rfl | ⟨e, rfl, _, _⟩
          · rfl
          · exact endB_lop (hs.endB hk) _ _ _ hm
      · obtain ⟨c, rfl⟩ : ∃ x, c = (parT a.comp a.tk).length + x := ⟨c - (parT a.comp a.tk).length, by omega⟩
        cases c with
        | zero =>
          refine ⟨.ok a.ex (i + (parT a.comp a.tk).length), .inr ⟨_, rfl, (a.gd hoka).mono (by simp only [Tr.lev]; omega), by rw [List.getElem?_append_right (by omega)]; simp⟩, fun l rest hs hi hl => ?_⟩
          rw [take_long (by omega)] at hl
          have hl : l.drop i = parT a.comp a.tk ++ rest := by rw [hl]; simp
          have hk := drop_add hl
          have := (parse_tree l a hoka (by omega)).1 i d rest hl (by omega) (hs.no hk (by simp) (by decide))
          simp only
          rw [binR_eq l i d 1 hm hi, this]
          exact endB_lop (hs.endB hk) _ _ _ hm
        | succ c =>
          obtain ⟨r, hr, hf⟩ := ihp (i + (parT a.comp a.tk).length + 1) d c (by omega) (by omega)
          have he : i + (parT a.comp a.tk).length + 1 + c = i + ((parT a.comp a.tk).length + (c + 1)) := by omega
          rw [he] at hr
          refine ⟨r.bind fun e n => .ok ⟨5, op, 0, [], [a.ex, e]⟩ n, ?_, fun l rest hs hi hl => ?_⟩
          · rcases hr with rfl | ⟨e, rfl, h1, h2⟩
            · exact .inl rfl
            · refine .inr ⟨_, rfl, gd_two (fit_bin hop _ _) rfl (a.gd hoka) h1, ?_⟩
              rw [List.getElem?_append_right (by omega), show (parT a.comp a.tk).length + (c + 1) - (parT a.comp a.tk).length = c + 1 by omega]
              exact h2
          · rw [take_long (by omega), show (parT a.comp a.tk).length + (c + 1) - (parT a.comp a.tk).length = c + 1 by omega, List.take_succ_cons] at hl
            have hl : l.drop i = parT a.comp a.tk ++ ((4, signB op) :: ((parT b.comp b.tk).take c ++ rest)) := by rw [hl]; simp
            have h1 := drop_add hl
            obtain ⟨h2, h3, h4⟩ := tk_at h1
            have sop := sg_at h1
            have ha := (parse_tree l a hoka (by omega)).1 i d _ hl (by omega) (by rw [sop]; exact hnb)
            have hf := hf l rest hs (by omega) h4
            have hk : l.drop (i + ((parT a.comp a.tk).length + (c + 1))) = rest := by
              have := drop_add h4
              rwa [List.length_take, Nat.min_eq_left (by omega), he] at this
            have hpos : 1 ≤ i + (parT a.comp a.tk).length := by
              have := opdR_within l i d hi; rw [ha] at this; simp only [Res.within] at this; omega
            simp only at hf ⊢
            rw [binR_eq l i d 1 hm hi, ha]
            simp only [Res.bind]
            rw [lopR_eq l _ _ d 1 hpos (by omega) (by rw [sop]; omega), sop, binR_eq l _ d _ (by omega) (by omega), hf]
            rcases hr with rfl | ⟨e, rfl, h5, h6⟩
            · rfl
            · simp only [Res.bind]
              rw [endB_lop (hs.endB hk) _ _ _ (by omega)]
              simp only [madeR]
              rw [show (opB (signB op)).1 = op by rw [q1], if_pos ((gd_two (fit_bin hop a.ex e) rfl (a.gd hoka) h5).exB (by omega))]
              simp only
              exact endB_lop (hs.endB hk) _ _ _ (by omega)
    exact ⟨wrap _ ⟨hop, hoka, hokb⟩ (by simp only [Tr.lev]; omega) hb rfl, hb⟩
end Go.Proofs.YtipepljmfgjbpaaGreatDoor.E5
