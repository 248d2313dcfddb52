/-
  How far expressions reach; fuel does not matter; which expressions are returned. No program is named here.
-/
import Derived.Test.YtkpbplmmphpokaaGreatDoorEMath
namespace Go.Proofs.YtkpbplmmphpokaaGreatDoor.E5
open Go Go.Proofs.YtkpbplmmphpokaaGreatDoor

theorem numR_within {l : TL} {i : Nat} (h : i < l.length) : (numR l i).within l i := by
  unfold numR; split <;> simp only [Res.within] <;> omega
theorem nmTok_lt {l : TL} {i : Nat} (h : nmTok (tkAt l i) = true) : i < l.length := kind_lt (by
  unfold nmTok at h; simp at h; omega)
theorem keyR_within {l : TL} {i : Nat} (h : i < l.length) : (keyR l i).within l i := by
  unfold keyR lenR
  split
  · simp only [Res.within]; omega
  split
  · simp only [Res.within]; omega
  split
  · split
    · rename_i h1
      have := sgAt_lt h1 (by simp)
      split
      · rename_i h2
        have := nmTok_lt h2
        split
        · rename_i h3
          have := sgAt_lt h3 (by simp)
          simp only [Res.within]; omega
        · simp only [Res.within]; omega
      · simp only [Res.within]; omega
    · simp only [Res.within]; omega
  · simp only [Res.within]; omega

theorem reach (l : TL) : ∀ f, (∀ i d, i ≤ l.length → (opd l f i d).within l i) ∧ (∀ i d m, 1 ≤ m → i ≤ l.length → (bin l f i d m).within l i) ∧ (∀ e i d m, 1 ≤ i → 1 ≤ m → i ≤ l.length → (lop l f e i d m).within l (i - 1)) := by
  intro f
  induction f with
  | zero =>
    refine ⟨fun i d h => ?_, fun i d m hm h => ?_, fun e i d m h1 h2 h3 => ?_⟩
    · rw [opd]; simp only [Res.within]; omega
    · rw [bin]; simp only [Res.within]; omega
    · rw [lop]; simp only [Res.within]; omega
  | succ f ih =>
    obtain ⟨ho, hb, hl⟩ := ih
    refine ⟨fun i d h => ?_, fun i d m hm h => ?_, fun e i d m h1 h2 h3 => ?_⟩
    · rw [opd]
      split
      · rename_i hk; exact numR_within (kind_lt (by omega))
      split
      · rename_i hk
        have hi := kind_lt (l := l) (i := i) (by omega)
        split
        · split
          · rename_i hs
            have := sgAt_lt hs (by simp)
            split
            · simp only [Res.within]; omega
            · refine Res.bind_within ((hb (i + 2) (d + 1) 1 (by omega) (by omega)).mono (by omega)) fun e n he => ?_
              have h4 := hb (i + 2) (d + 1) 1 (by omega) (by omega)
              rw [he] at h4
              simp only [Res.within] at h4
              split
              · rename_i h5; have := sgAt_lt h5 (by simp); exact madeR_within (by omega) (by omega)
              · simp only [Res.within]; omega
          · simp only [Res.within]; omega
        · simp only [Res.within]; omega
      split
      · rename_i hk; exact keyR_within (kind_lt (by omega))
      split
      · rename_i hs
        have := sgAt_lt hs (by simp)
        split
        · simp only [Res.within]; omega
        · have h4 := ho (i + 1) (d + 1) (by omega)
          refine Res.bind_within (h4.mono (by omega)) fun e n he => ?_
          rw [he] at h4
          simp only [Res.within] at h4
          exact madeR_within (by omega) (by omega)
      split
      · rename_i hs
        have := sgAt_lt hs (by simp)
        split
        · simp only [Res.within]; omega
        · have h4 := ho (i + 1) (d + 1) (by omega)
          refine Res.bind_within (h4.mono (by omega)) fun e n he => ?_
          rw [he] at h4
          simp only [Res.within] at h4
          exact madeR_within (by omega) (by omega)
      split
      · rename_i hs
        have := sgAt_lt hs (by simp)
        split
        · simp only [Res.within]; omega
        · have h4 := hb (i + 1) (d + 1) 1 (by omega) (by omega)
          refine Res.bind_within (h4.mono (by omega)) fun e n he => ?_
          rw [he] at h4
          simp only [Res.within] at h4
          split
          · rename_i h5; have := sgAt_lt h5 (by simp); simp only [Res.within]; omega
          · simp only [Res.within]; omega
      · simp only [Res.within]; omega
    · rw [bin]
      have h4 := ho i d h
      refine Res.bind_within h4 fun e n he => ?_
      rw [he] at h4
      simp only [Res.within] at h4
      exact (hl e n d m (by omega) hm (by omega)).mono (by omega)
    · rw [lop]
      split
      · simp only [Res.within]; omega
      · rename_i hr
        have hi : i < l.length := by
          rcases Nat.lt_or_ge i l.length with h4 | h4
          · exact h4
          · exfalso; apply hr
            have : sgAt l i = [] := by unfold sgAt tkAt; rw [List.getElem?_eq_none h4]; rfl
            rw [this, opB_nil]; simp only; omega
        have h4 := hb (i + 1) d ((opB (sgAt l i)).2 + 1) (by omega) (by omega)
        refine Res.bind_within (h4.mono (by omega)) fun r n he => ?_
        rw [he] at h4
        simp only [Res.within] at h4
        have h5 : (madeR ⟨5, (opB (sgAt l i)).1, 0, [], [e, r]⟩ n).within l i := madeR_within (by omega) (by omega)
        refine Res.bind_within (h5.mono (by omega)) fun x k hx => ?_
        rw [hx] at h5
        simp only [Res.within] at h5
        exact (hl x k d m (by omega) h2 (by omega)).mono (by omega)

theorem Res.bind_congr {r : Res} {f g : Ex → Nat → Res} (h : ∀ e n, r = .ok e n → f e n = g e n) : r.bind f = r.bind g := by
  cases r with
  | ok e n => exact h e n rfl
  | bad j c => rfl
/-- Fuel does not matter if there is enough. -/
theorem enough (l : TL) : ∀ f, (∀ f' i d, i ≤ l.length → 2 * (l.length - i) + 1 ≤ f → 2 * (l.length - i) + 1 ≤ f' → opd l f i d = opd l f' i d) ∧
    (∀ f' i d m, 1 ≤ m → i ≤ l.length → 2 * (l.length - i) + 2 ≤ f → 2 * (l.length - i) + 2 ≤ f' → bin l f i d m = bin l f' i d m) ∧
    (∀ f' e i d m, 1 ≤ i → 1 ≤ m → i ≤ l.length → 2 * (l.length - i) + 1 ≤ f → 2 * (l.length - i) + 1 ≤ f' → lop l f e i d m = lop l f' e i d m) := by
  intro f
  induction f with
  | zero => exact ⟨fun f' i d h h1 => by omega, fun f' i d m _ h h1 => by omega, fun f' e i d m _ _ h h1 => by omega⟩
  | succ f ih =>
    obtain ⟨ho, hb, hl⟩ := ih
    refine ⟨fun f' i d h h1 h2 => ?_, fun f' i d m hm h h1 h2 => ?_, fun f' e i d m hi hm h h1 h2 => ?_⟩
    · obtain ⟨f', rfl⟩ : ∃ k, f' = k + 1 := ⟨f' - 1, by omega⟩
      rw [opd, opd]
      split
      · rfl
      split
      · rename_i hk
        have hi := kind_lt (l := l) (i := i) (by omega)
        split
        · split
          · rename_i hs
            have := sgAt_lt hs (by simp)
            rw [hb f' (i + 2) (d + 1) 1 (by omega) (by omega) (by omega) (by omega)]
          · rfl
        · rfl
      split
      · rfl
      split
      · rename_i hs
        have := sgAt_lt hs (by simp)
        rw [ho f' (i + 1) (d + 1) (by omega) (by omega) (by omega)]
      split
      · rename_i hs
        have := sgAt_lt hs (by simp)
        rw [ho f' (i + 1) (d + 1) (by omega) (by omega) (by omega)]
      split
      · rename_i hs
        have := sgAt_lt hs (by simp)
        rw [hb f' (i + 1) (d + 1) 1 (by omega) (by omega) (by omega) (by omega)]
      · rfl
    · obtain ⟨f', rfl⟩ : ∃ k, f' = k + 1 := ⟨f' - 1, by omega⟩
      rw [bin, bin, ho f' i d h (by omega) (by omega)]
      refine Res.bind_congr fun e n he => ?_
      have h4 := (reach l f').1 i d h
      rw [he] at h4
      simp only [Res.within] at h4
      exact hl f' e n d m (by omega) hm (by omega) (by omega) (by omega)
    · obtain ⟨f', rfl⟩ : ∃ k, f' = k + 1 := ⟨f' - 1, by omega⟩
      rw [lop, lop]
      split
      · rfl
      · rename_i hr
        have hi : i < l.length := by
          rcases Nat.lt_or_ge i l.length with h4 | h4
          · exact h4
          · exfalso; apply hr
            have : sgAt l i = [] := by unfold sgAt tkAt; rw [List.getElem?_eq_none h4]; rfl
            rw [this, opB_nil]; simp only; omega
        rw [hb f' (i + 1) d _ (by omega) (by omega) (by omega) (by omega)]
        refine Res.bind_congr fun r n he => ?_
        have h4 := (reach l f').2.1 (i + 1) d ((opB (sgAt l i)).2 + 1) (by omega) (by omega)
        rw [he] at h4
        simp only [Res.within] at h4
        refine Res.bind_congr fun x k hx => ?_
        have h5 : (madeR ⟨5, (opB (sgAt l i)).1, 0, [], [e, r]⟩ n).within l i := madeR_within (by omega) (by omega)
        rw [hx] at h5
        simp only [Res.within] at h5
        exact hl f' x k d m (by omega) hm (by omega) (by omega) (by omega)

/-! ### without fuel -/
def opdR (l : TL) (i d : Nat) : Res := opd l (fuelOf l) i d
def binR (l : TL) (i d : Nat) (m : Int) : Res := bin l (fuelOf l) i d m
def lopR (l : TL) (e : Ex) (i d : Nat) (m : Int) : Res := lop l (fuelOf l) e i d m
theorem opdR_within (l : TL) (i d : Nat) (h : i ≤ l.length) : (opdR l i d).within l i := (reach l _).1 i d h
theorem binR_within (l : TL) (i d : Nat) (m : Int) (hm : 1 ≤ m) (h : i ≤ l.length) : (binR l i d m).within l i := (reach l _).2.1 i d m hm h
theorem lopR_within (l : TL) (e : Ex) (i d : Nat) (m : Int) (hi : 1 ≤ i) (hm : 1 ≤ m) (h : i ≤ l.length) : (lopR l e i d m).within l (i - 1) := (reach l _).2.2 e i d m hi hm h
theorem parseR_is (l : TL) (i d : Nat) : parseR l i d = binR l i d 1 := rfl
theorem opdR_eq (l : TL) (i d : Nat) (_h : i ≤ l.length) : opdR l i d =
    if (tkAt l i).1 = 2 then numR l i
    else if (tkAt l i).1 = 1 then
      if S3.nameB (tkAt l i).2 then
        if sgAt l (i + 1) = [91] then
          if 40 ≤ d then .bad (i + 1) 8 else (binR l (i + 2) (d + 1) 1).bind fun e n => if sgAt l n = [93] then madeR ⟨6, 0, 0, (tkAt l i).2, [e]⟩ (n + 1) else .bad n 7
        else .ok ⟨3, 0, 0, (tkAt l i).2, []⟩ (i + 1)
      else .bad i 7
    else if (tkAt l i).1 = 3 then keyR l i
    else if sgAt l i = [45] then if 40 ≤ d then .bad i 8 else (opdR l (i + 1) (d + 1)).bind fun e n => madeR ⟨4, 14, 0, [], [e]⟩ n
    else if sgAt l i = [33] then if 40 ≤ d then .bad i 8 else (opdR l (i + 1) (d + 1)).bind fun e n => madeR ⟨4, 15, 0, [], [e]⟩ n
    else if sgAt l i = [40] then if 40 ≤ d then .bad i 8 else (binR l (i + 1) (d + 1) 1).bind fun e n => if sgAt l n = [41] then .ok e (n + 1) else .bad n 7
    else .bad i 7 := by
  have E := enough l (2 * l.length + 3)
  unfold opdR binR fuelOf
  rw [opd]
  split
  · rfl
  split
  · rename_i hk
    have hi := kind_lt (l := l) (i := i) (by omega)
    split
    · split
      · rename_i hs
        have := sgAt_lt hs (by simp)
        rw [E.2.1 (2 * l.length + 4) (i + 2) (d + 1) 1 (by omega) (by omega) (by omega) (by omega)]
      · rfl
    · rfl
  split
  · rfl
  split
  · rename_i hs
    have := sgAt_lt hs (by simp)
    rw [E.1 (2 * l.length + 4) (i + 1) (d + 1) (by omega) (by omega) (by omega)]
  split
  · rename_i hs
    have := sgAt_lt hs (by simp)
    rw [E.1 (2 * l.length + 4) (i + 1) (d + 1) (by omega) (by omega) (by omega)]
  split
  · rename_i hs
    have := sgAt_lt hs (by simp)
    rw [E.2.1 (2 * l.length + 4) (i + 1) (d + 1) 1 (by omega) (by omega) (by omega) (by omega)]
  · rfl
theorem binR_eq (l : TL) (i d : Nat) (m : Int) (hm : 1 ≤ m) (h : i ≤ l.length) : binR l i d m = (opdR l i d).bind fun e n => lopR l e n d m := by
  have E := enough l (2 * l.length + 3)
  unfold opdR binR lopR fuelOf
  rw [bin, E.1 (2 * l.length + 4) i d h (by omega) (by omega)]
  refine Res.bind_congr fun e n he => ?_
  have h4 := (reach l (2 * l.length + 4)).1 i d h
  rw [he] at h4
  simp only [Res.within] at h4
  exact E.2.2 (2 * l.length + 4) e n d m (by omega) hm (by omega) (by omega) (by omega)
theorem lopR_end (l : TL) (e : Ex) (i d : Nat) (m : Int) (h : (opB (sgAt l i)).2 < m) : lopR l e i d m = .ok e i := by
  unfold lopR fuelOf
  rw [lop, if_pos h]
theorem op_lt {l : TL} {i : Nat} {m : Int} (hm : 1 ≤ m) (hr : ¬ (opB (sgAt l i)).2 < m) : i < l.length := by
  rcases Nat.lt_or_ge i l.length with h4 | h4
  · exact h4
  · exfalso; apply hr
    have : sgAt l i = [] := by unfold sgAt tkAt; rw [List.getElem?_eq_none h4]; rfl
    rw [this, opB_nil]; simp only; omega
theorem lopR_eq (l : TL) (e : Ex) (i d : Nat) (m : Int) (hi : 1 ≤ i) (hm : 1 ≤ m) (h : ¬ (opB (sgAt l i)).2 < m) :
    lopR l e i d m = (binR l (i + 1) d ((opB (sgAt l i)).2 + 1)).bind fun r n => (madeR ⟨5, (opB (sgAt l i)).1, 0, [], [e, r]⟩ n).bind fun x k => lopR l x k d m := by
  have hl := op_lt hm h
  have E := enough l (2 * l.length + 3)
  unfold binR lopR fuelOf
  rw [lop, if_neg h, E.2.1 (2 * l.length + 4) (i + 1) d _ (by omega) (by omega) (by omega) (by omega)]
  refine Res.bind_congr fun r n he => ?_
  have h4 := (reach l (2 * l.length + 4)).2.1 (i + 1) d ((opB (sgAt l i)).2 + 1) (by omega) (by omega)
  rw [he] at h4
  simp only [Res.within] at h4
  refine Res.bind_congr fun x k hx => ?_
  have h5 : (madeR ⟨5, (opB (sgAt l i)).1, 0, [], [e, r]⟩ n).within l i := madeR_within (by omega) (by omega)
  rw [hx] at h5
  simp only [Res.within] at h5
  exact E.2.2 (2 * l.length + 4) x k d m (by omega) hm (by omega) (by omega) (by omega)
end Go.Proofs.YtkpbplmmphpokaaGreatDoor.E5
