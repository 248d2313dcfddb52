/-
  Trees in parentheses, between other tokens; trees that are cut off: what is read of them. No program is named here.
-/
import Derived.Test.YtoldhocdfkndbaaGreatDoorEDraft
import Derived.Test.YtoldhocdfkndbaaGreatDoorECut
namespace Go.Proofs.YtoldhocdfkndbaaGreatDoor.E5
open Go Go.Proofs.YtoldhocdfkndbaaGreatDoor

theorem tk_drop (l : TL) (i : Nat) : tkAt l i = tkAt (l.drop i) 0 := by simp [tkAt]
theorem sg_drop (l : TL) (i : Nat) : sgAt l i = sgAt (l.drop i) 0 := by unfold sgAt; rw [tk_drop l i]
theorem wrapT_len (k : Nat) (l : TL) : (wrapT k l).length = l.length + 2 * k := by simp [wrapT]; omega
theorem wrapT_succ (k : Nat) (l post : TL) : wrapT (k + 1) l ++ post = tOpen :: (wrapT k l ++ tShut :: post) := by
  unfold wrapT
  rw [List.replicate_succ, List.replicate_succ']
  simp
theorem wrap_parse {t : Tr} (h : t.ok) (hl : t.lev ≤ 20) (l : TL) : ∀ (k i d : Nat) (post : TL), l.drop i = wrapT k t.tk ++ post → d + k + t.nest + 1 ≤ 40 → endB l (i + (wrapT k t.tk).length) → sgAt l (i + (wrapT k t.tk).length) ≠ [91] →
    binR l i d 1 = .ok t.ex (i + (wrapT k t.tk).length) := by
  intro k
  induction k with
  | zero =>
    intro i d post hd hn he hs
    have e : wrapT 0 t.tk = t.tk := by simp [wrapT]
    rw [e] at hd he hs ⊢
    exact (parse_tree l t h hl).2 i d post 1 (by omega) hd (by omega) (.inl rfl) he hs
  | succ k ih =>
    intro i d post hd hn he hs
    rw [wrapT_succ] at hd
    obtain ⟨h1, h2, h3⟩ := tk_at hd
    have h4 := drop_add h3
    have h5 := sg_at (s := [41]) h4
    have hin := ih (i + 1) (d + 1) (tShut :: post) h3 (by omega) (by unfold E5.endB; rw [h5]; decide) (by rw [h5]; decide)
    have hlen : i + (wrapT (k + 1) t.tk).length = i + 1 + (wrapT k t.tk).length + 1 := by rw [wrapT_len, wrapT_len]; omega
    rw [hlen] at he hs ⊢
    rw [binR_eq l i d 1 (by omega) (by omega), opdR_par h1 d (by omega) (by omega), hin]
    simp only [Res.bind]
    rw [if_pos h5]
    simp only
    exact endB_lop he _ d 1 (by omega)
/-- In parentheses, wherever it stands. -/
theorem back_plain {t : Tr} (h : t.ok) (hl : t.lev ≤ 6) {k : Nat} (hk : k ≤ 7) (F T : TL) (h1 : (opB (sgAt T 0)).2 < 1) (h2 : sgAt T 0 ≠ [91]) :
    parseR (F ++ (wrapT k t.tk ++ T)) F.length 0 = .ok t.ex (F.length + (wrapT k t.tk).length) := by
  have hd : (F ++ (wrapT k t.tk ++ T)).drop F.length = wrapT k t.tk ++ T := List.drop_left
  have h3 := drop_add hd
  have hn := nest_lev t
  rw [parseR_is]
  exact wrap_parse h (by omega) _ k F.length 0 T hd (by omega) (by unfold E5.endB; rw [sg_drop, h3]; exact h1) (by rw [sg_drop, h3]; exact h2)
/-- Cut off at its token k. -/
theorem cut_plain {t : Tr} (h : t.ok) (hl : t.lev ≤ 20) {k : Nat} (hk : k < t.tk.length) : ∃ r, (r = .bad k 7 ∨ ∃ e, r = .ok e k ∧ S3.exB e = true ∧ ∃ s, t.tk[k]? = some (4, s)) ∧
    parseR (t.tk.take k) 0 0 = r ∧ parseR (t.tk.take k ++ (4, [59]) :: t.tk.drop k) 0 0 = r := by
  have hn := nest_lev t
  obtain ⟨r, hr, hf⟩ := (cut_tree t h hl).2 0 0 k 1 (by omega) hk (by omega) (.inl rfl)
  rw [Nat.zero_add] at hr
  refine ⟨r, ?_, ?_, ?_⟩
  · rcases hr with h1 | ⟨e, h1, h2, h3⟩
    · exact .inl h1
    · refine .inr ⟨e, h1, h2.exB hl, ?_⟩
      rw [List.getElem?_eq_getElem hk] at h3 ⊢
      simp at h3
      exact ⟨t.tk[k].2, by rw [← h3]⟩
  · rw [parseR_is]; exact hf _ [] (.inl rfl) (Nat.zero_le _) (by simp)
  · rw [parseR_is]; exact hf _ ((4, [59]) :: t.tk.drop k) (.inr ⟨_, _, rfl, .inl rfl⟩) (Nat.zero_le _) rfl
theorem whole_plain {t : Tr} (h : t.ok) (hl : t.lev ≤ 20) : parseR t.tk 0 0 = .ok t.ex t.tk.length := by
  have hn := nest_lev t
  have he : tkAt t.tk (0 + t.tk.length) = (0, []) := by unfold tkAt; rw [List.getElem?_eq_none (by omega)]; rfl
  have hs : sgAt t.tk (0 + t.tk.length) = [] := by unfold sgAt; rw [he]; rfl
  have := (parse_tree t.tk t h hl).2 0 0 [] 1 (by omega) (by simp) (by omega) (.inl rfl) (by unfold E5.endB; rw [hs]; decide) (by rw [hs]; decide)
  rw [parseR_is, this]
  simp

/-! ### the law's texts -/
def frontB (n : Nat) : List UInt8 := if n = 0 then [] else if n = 1 then [120] else if n = 2 then [41, 32, 93] else [43, 32, 53]
def tailB (n : Nat) : List UInt8 := if n = 0 then [] else if n = 1 then [59] else if n = 2 then [41] else if n = 3 then [97] else if n = 4 then [53] else if n = 5 then [44, 32, 43] else if n = 6 then [123] else if n = 7 then [61, 32, 49] else if n = 8 then [33] else [116, 114, 117, 101]
theorem tailB_end : ∀ n < 10, (opB (sgAt (tlS (tailB n)) 0)).2 < 1 ∧ sgAt (tlS (tailB n)) 0 ≠ [91] := by decide +kernel
end Go.Proofs.YtoldhocdfkndbaaGreatDoor.E5
