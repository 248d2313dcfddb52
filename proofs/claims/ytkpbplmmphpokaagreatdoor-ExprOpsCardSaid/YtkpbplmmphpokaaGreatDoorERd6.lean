/-
  All parts of the reader, by induction on what is left of the tokens.
-/
import Derived.Test.YtkpbplmmphpokaaGreatDoorERd5
namespace Go.Proofs.YtkpbplmmphpokaaGreatDoor.E5
open Go Go.RowKit Go.Proofs.YtkpbplmmphpokaaGreatDoor

abbrev OPD (l : TL) (v : Value) (b : RB) (i d : Nat) : Prop := ∀ W, Rd W l v b i d → Calls Tryz.prog 149 #[rp b] W (Post W l v b d (opdR l i d))
abbrev BIN (l : TL) (v : Value) (b : RB) (i d : Nat) (m : Int) : Prop := ∀ W, Rd W l v b i d → Calls Tryz.prog 103 #[rp b, .int .i64 m] W (Post W l v b d (binR l i d m))
theorem expr_bin {l : TL} {v : Value} {b : RB} {i d : Nat} (h : BIN l v b i d 1) : ∀ W, Rd W l v b i d → Calls Tryz.prog 64 #[rp b] W (Post W l v b d (binR l i d 1)) :=
  fun _ hW => rexpr_of hW _ h
/-- What inner gives. -/
def innR (l : TL) (i d : Nat) (s : Bytes) : Res := if 40 ≤ d then .bad i 8 else (binR l (i + 1) (d + 1) 1).bind fun e n => if sgAt l n = s then .ok e (n + 1) else .bad n 7
theorem rinner_calls {l : TL} {v : Value} {b : RB} {i d : Nat} (hi : i < l.length) {s : Bytes} (hs : s ≠ []) (h : BIN l v b (i + 1) (d + 1) 1) :
    ∀ W, Rd W l v b i d → Calls Tryz.prog 218 #[rp b, .string (B s)] W (Post W l v b d (innR l i d s)) := by
  intro W hW
  have C := expr_bin h
  unfold innR
  by_cases hd : 40 ≤ d
  · rw [if_pos hd]; exact rinner_deep hW hd s
  rw [if_neg hd]
  cases hB : binR l (i + 1) (d + 1) 1 with
  | bad j c => rw [hB] at C; exact rinner_bad hW (by omega) hi s j c C
  | ok e n =>
    rw [hB] at C
    simp only [Res.bind]
    by_cases hc : sgAt l n = s
    · rw [if_pos hc]; exact rinner_yes hW (by omega) hi s hs e n hc C
    · rw [if_neg hc]; exact rinner_no hW (by omega) hi s e n hc C
theorem runary_calls {l : TL} {v : Value} {b : RB} {i d : Nat} (hi : i < l.length) {op : Int} (hop : op = 14 ∨ op = 15) (C : OPD l v b (i + 1) (d + 1)) :
    ∀ W, Rd W l v b i d → Calls Tryz.prog 220 #[rp b, .int .i64 op] W (Post W l v b d (if 40 ≤ d then .bad i 8 else (opdR l (i + 1) (d + 1)).bind fun e n => madeR ⟨4, op, 0, [], [e]⟩ n)) := by
  intro W hW
  have C : ∀ W, Rd W l v b (i + 1) (d + 1) → Calls Tryz.prog 149 #[rp b] W (Post W l v b (d + 1) (opdR l (i + 1) (d + 1))) := C
  have hok : S3.okI op := okI_small (by omega) (by omega)
  by_cases hd : 40 ≤ d
  · rw [if_pos hd]; exact runary_deep hW hd op
  rw [if_neg hd]
  cases hB : opdR l (i + 1) (d + 1) with
  | bad j c => rw [hB] at C; exact runary_bad hW (by omega) hi op j c C
  | ok e n =>
    have hwin := opdR_within l (i + 1) (d + 1) hi
    rw [hB] at C hwin
    simp only [Res.within] at hwin
    simp only [Res.bind, madeR]
    by_cases hx : S3.exB ⟨4, op, 0, [], [e]⟩ = true
    · rw [if_pos hx]; exact runary_yes hW (by omega) hi op hok e n hx C
    · rw [if_neg hx]; exact runary_no hW (by omega) hi op hok e n (by omega) (by simpa using hx) C
theorem rsigned_calls {l : TL} {v : Value} {b : RB} {i d : Nat} (hB : i < l.length → BIN l v b (i + 1) (d + 1) 1) (hO : i < l.length → OPD l v b (i + 1) (d + 1)) :
    ∀ W, Rd W l v b i d → Calls Tryz.prog 192 #[rp b] W (Post W l v b d (
      if sgAt l i = [45] then if 40 ≤ d then .bad i 8 else (opdR l (i + 1) (d + 1)).bind fun e n => madeR ⟨4, 14, 0, [], [e]⟩ n
      else if sgAt l i = [33] then if 40 ≤ d then .bad i 8 else (opdR l (i + 1) (d + 1)).bind fun e n => madeR ⟨4, 15, 0, [], [e]⟩ n
      else if sgAt l i = [40] then innR l i d [41]
      else .bad i 7)) := by
  intro W hW
  by_cases h1 : sgAt l i = [45]
  · rw [if_pos h1]
    have hi := sgAt_lt h1 (by simp)
    exact rsigned_minus hW h1 _ (runary_calls hi (.inl rfl) (hO hi))
  rw [if_neg h1]
  by_cases h2 : sgAt l i = [33]
  · rw [if_pos h2]
    have hi := sgAt_lt h2 (by simp)
    exact rsigned_not hW h2 _ (runary_calls hi (.inr rfl) (hO hi))
  rw [if_neg h2]
  by_cases h3 : sgAt l i = [40]
  · rw [if_pos h3]
    have hi := sgAt_lt h3 (by simp)
    exact rsigned_par hW h3 _ (rinner_calls hi (by simp) (hB hi))
  rw [if_neg h3]
  exact rsigned_no hW h1 h2 h3
theorem rvariable_calls {l : TL} {v : Value} {b : RB} {i d : Nat} (hk : (tkAt l i).1 = 1) (hB : i + 1 < l.length → BIN l v b (i + 2) (d + 1) 1) :
    ∀ W, Rd W l v b i d → Calls Tryz.prog 190 #[rp b] W (Post W l v b d (
      if S3.nameB (tkAt l i).2 then
        if sgAt l (i + 1) = [91] then
          if 40 ≤ d then .bad (i + 1) 8 else (binR l (i + 2) (d + 1) 1).bind fun e n => if sgAt l n = [93] then madeR ⟨6, 0, 0, (tkAt l i).2, [e]⟩ (n + 1) else .bad n 7
        else .ok ⟨3, 0, 0, (tkAt l i).2, []⟩ (i + 1)
      else .bad i 7)) := by
  intro W hW
  by_cases hn : S3.nameB (tkAt l i).2 = true
  · rw [if_pos hn]
    have hnm : nmTok (tkAt l i) = true := by simp [nmTok, hk, hn]
    by_cases hs : sgAt l (i + 1) = [91]
    · rw [if_pos hs]
      have hi := sgAt_lt hs (by simp)
      have C := rinner_calls (s := [93]) hi (by simp) (hB hi)
      unfold innR at C
      by_cases hd : 40 ≤ d
      · rw [if_pos hd]
        have C : ∀ W, Rd W l v b (i + 1) d → Calls Tryz.prog 218 #[rp b, .string (B [93])] W (Post W l v b d (.bad (i + 1) 8)) := fun W hW => by have := C W hW; rwa [if_pos hd] at this
        exact rvar_ibad hW hnm hs _ _ C
      rw [if_neg hd]
      have C : ∀ W, Rd W l v b (i + 1) d → Calls Tryz.prog 218 #[rp b, .string (B [93])] W (Post W l v b d ((binR l (i + 2) (d + 1) 1).bind fun e n => if sgAt l n = [93] then .ok e (n + 1) else .bad n 7)) := fun W hW => by have := C W hW; rwa [if_neg hd] at this
      cases hE : binR l (i + 2) (d + 1) 1 with
      | bad j c => rw [hE] at C; exact rvar_ibad hW hnm hs _ _ C
      | ok e n =>
        rw [hE] at C
        simp only [Res.bind] at C ⊢
        by_cases hc : sgAt l n = [93]
        · rw [if_pos hc]
          have C : ∀ W, Rd W l v b (i + 1) d → Calls Tryz.prog 218 #[rp b, .string (B [93])] W (Post W l v b d (.ok e (n + 1))) := fun W hW => by have := C W hW; rwa [if_pos hc] at this
          unfold madeR
          by_cases hx : S3.exB ⟨6, 0, 0, (tkAt l i).2, [e]⟩ = true
          · rw [if_pos hx]; exact rvar_iyes hW hnm hs e (n + 1) hx C
          · rw [if_neg hx]; exact rvar_ino hW hnm hs e (n + 1) (by omega) (by simpa using hx) C
        · rw [if_neg hc]
          have C : ∀ W, Rd W l v b (i + 1) d → Calls Tryz.prog 218 #[rp b, .string (B [93])] W (Post W l v b d (.bad n 7)) := fun W hW => by have := C W hW; rwa [if_neg hc] at this
          exact rvar_ibad hW hnm hs _ _ C
    · rw [if_neg hs]; exact rvar_plain hW hnm hs
  · rw [if_neg hn]; exact rvar_bad hW (by simp [nmTok, hn])
theorem parts (l : TL) (v : Value) (b : RB) (n : Nat) : (∀ i d, i ≤ l.length → l.length - i ≤ n → OPD l v b i d) ∧ (∀ i d m, i ≤ l.length → l.length - i ≤ n → 1 ≤ m → m ≤ 6 → BIN l v b i d m) := by
  induction n using Nat.strongRecOn with
  | _ n ih =>
    have hO : ∀ i d, i ≤ l.length → l.length - i ≤ n → OPD l v b i d := by
      intro i d hi hn W hW
      rw [opdR_eq l i d hi]
      by_cases h2 : (tkAt l i).1 = 2
      · rw [if_pos h2]
        have hlt := kind_lt (l := l) (i := i) (by omega)
        exact roperand_num hW h2 _ fun W hW => rnumber_calls hW hlt
      rw [if_neg h2]
      by_cases h1 : (tkAt l i).1 = 1
      · rw [if_pos h1]
        have hlt := kind_lt (l := l) (i := i) (by omega)
        exact roperand_name hW h1 _ (rvariable_calls h1 fun hl => (ih (l.length - (i + 2)) (by omega)).2 (i + 2) (d + 1) 1 (by omega) (by omega) (by omega) (by omega))
      rw [if_neg h1]
      by_cases h3 : (tkAt l i).1 = 3
      · rw [if_pos h3]; exact roperand_key hW h3 _ fun W hW => rkeyword_calls hW h3
      rw [if_neg h3]
      have := roperand_sign hW h1 h2 h3 _ (rsigned_calls (fun hl => (ih (l.length - (i + 1)) (by omega)).2 (i + 1) (d + 1) 1 (by omega) (by omega) (by omega) (by omega)) fun hl => (ih (l.length - (i + 1)) (by omega)).1 (i + 1) (d + 1) (by omega) (by omega))
      exact this
    refine ⟨hO, fun i d m hi hn hm hm6 W hW => ?_⟩
    have CO := hO i d hi hn
    cases hr : opdR l i d with
    | bad j c =>
      have CO : ∀ W, Rd W l v b i d → Calls Tryz.prog 149 #[rp b] W (Post W l v b d (.bad j c)) := fun W hW => by have := CO W hW; rwa [hr] at this
      rw [binR_eq l i d m hm hi, hr]
      exact rclimb_bad hW m j c CO
    | ok e n0 =>
      have CO : ∀ W, Rd W l v b i d → Calls Tryz.prog 149 #[rp b] W (Post W l v b d (.ok e n0)) := fun W hW => by have := CO W hW; rwa [hr] at this
      have hwin := opdR_within l i d hi
      rw [hr] at hwin
      simp only [Res.within] at hwin
      rw [binR_eq l i d m hm hi, hr]
      exact rclimb_ok hW m hm e n0 hwin.1 _ rfl CO fun j m' hj hjl hm1 hm2 => (ih (l.length - j) (by omega)).2 j d m' hjl (Nat.le_refl _) hm1 hm2
/-- expression, from wherever the reader stands. -/
theorem rexpression_calls {w : World} {l : TL} {v : Value} {b : RB} {i d : Nat} (h : Rd w l v b i d) :
    Calls Tryz.prog 64 #[rp b] w (Post w l v b d (binR l i d 1)) :=
  expr_bin ((parts l v b (l.length - i)).2 i d 1 h.hi (Nat.le_refl _) (by omega) (by omega)) w h
end Go.Proofs.YtkpbplmmphpokaaGreatDoor.E5
