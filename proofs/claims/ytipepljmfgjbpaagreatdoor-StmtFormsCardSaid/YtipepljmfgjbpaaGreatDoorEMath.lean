/-
  PLAIN WORDS FOR LAYER 5: the operators' table; expressions read from tokens (kind, text), by fuel. No program is named here.
  How far expressions reach; fuel does not matter; which expressions are returned. No program is named here.
-/
import Derived.Test.YtipepljmfgjbpaaGreatDoorSBx
import Derived.Test.YtipepljmfgjbpaaGreatDoorNMath
namespace Go.Proofs.YtipepljmfgjbpaaGreatDoor.E5
open Go Go.Proofs.YtipepljmfgjbpaaGreatDoor

abbrev Bytes := List UInt8
abbrev TL := List (Int × Bytes)
abbrev Ex := S3.Ex

/-! ### operators -/
def opsL : List (Bytes × Int × Int) := [([124, 124], 13, 1), ([38, 38], 12, 2), ([61, 61], 6, 3), ([33, 61], 7, 3), ([60], 8, 3), ([60, 61], 9, 3), ([62], 10, 3), ([62, 61], 11, 3), ([43], 1, 4), ([45], 2, 4), ([42], 3, 5), ([47], 4, 5), ([37], 5, 5)]
def opB (s : Bytes) : Int × Int := match opsL.find? (fun r => r.1 == s) with
  | some r => r.2
  | none => (0, 0)
def signB (op : Int) : Bytes := if op = 14 then [45] else if op = 15 then [33] else match opsL.find? (fun r => r.2.1 == op) with
  | some r => r.1
  | none => []

/-! ### tokens -/
def tkAt (l : TL) (i : Nat) : Int × Bytes := (l[i]?).getD (0, [])
def sgAt (l : TL) (i : Nat) : Bytes := if (tkAt l i).1 = 4 then (tkAt l i).2 else []
/-- The next token's text, if it is a keyword. -/
def kwAt (l : TL) (i : Nat) : Bytes := if (tkAt l i).1 = 3 then (tkAt l i).2 else []
theorem kwAt_is {l : TL} {i : Nat} (h : (tkAt l i).1 = 3) : kwAt l i = (tkAt l i).2 := if_pos h
theorem kwAt_lt {l : TL} {i : Nat} {s : Bytes} (h : kwAt l i = s) (hs : s ≠ []) : i < l.length := by
  rcases Nat.lt_or_ge i l.length with h1 | h1
  · exact h1
  · exfalso; apply hs; rw [← h]; unfold kwAt tkAt; rw [List.getElem?_eq_none h1]; rfl
def numT (t : Bytes) : Option Int := match N2.numParse t with
  | some n => if 0 ≤ n then some n else none
  | none => none

inductive Res
  | ok (e : Ex) (nx : Nat)
  | bad (i : Nat) (err : Int)
/-- An expression that ends ahead of the token n: too deep, or not. -/
def madeR (e : Ex) (n : Nat) : Res := if S3.exB e then .ok e n else .bad (n - 1) 8
def Res.bind (r : Res) (f : Ex → Nat → Res) : Res := match r with
  | .ok e n => f e n
  | .bad i c => .bad i c
def nmTok (t : Int × Bytes) : Bool := decide (t.1 = 1) && S3.nameB t.2
/-- len. -/
def lenR (l : TL) (i : Nat) : Res :=
  if sgAt l (i + 1) = [40] then if nmTok (tkAt l (i + 2)) then if sgAt l (i + 3) = [41] then .ok ⟨7, 0, 0, (tkAt l (i + 2)).2, []⟩ (i + 4) else .bad (i + 3) 7 else .bad (i + 2) 7 else .bad (i + 1) 7
def keyR (l : TL) (i : Nat) : Res :=
  if (tkAt l i).2 = [116, 114, 117, 101] then .ok ⟨2, 0, 1, [], []⟩ (i + 1) else if (tkAt l i).2 = [102, 97, 108, 115, 101] then .ok ⟨2, 0, 0, [], []⟩ (i + 1)
  else if (tkAt l i).2 = [108, 101, 110] then lenR l i else .bad i 7
def numR (l : TL) (i : Nat) : Res := match numT (tkAt l i).2 with
  | some n => .ok ⟨1, 0, n, [], []⟩ (i + 1)
  | none => .bad i 7

mutual
/-- An operand from i on, at the nesting d. -/
def opd (l : TL) : Nat → Nat → Nat → Res
  | 0, i, _ => .bad i 7
  | f + 1, i, d =>
    if (tkAt l i).1 = 2 then numR l i
    else if (tkAt l i).1 = 1 then
      if S3.nameB (tkAt l i).2 then
        if sgAt l (i + 1) = [91] then
          if 40 ≤ d then .bad (i + 1) 8 else (bin l f (i + 2) (d + 1) 1).bind fun e n => if sgAt l n = [93] then madeR ⟨6, 0, 0, (tkAt l i).2, [e]⟩ (n + 1) else .bad n 7
        else .ok ⟨3, 0, 0, (tkAt l i).2, []⟩ (i + 1)
      else .bad i 7
    else if (tkAt l i).1 = 3 then keyR l i
    else if sgAt l i = [45] then if 40 ≤ d then .bad i 8 else (opd l f (i + 1) (d + 1)).bind fun e n => madeR ⟨4, 14, 0, [], [e]⟩ n
    else if sgAt l i = [33] then if 40 ≤ d then .bad i 8 else (opd l f (i + 1) (d + 1)).bind fun e n => madeR ⟨4, 15, 0, [], [e]⟩ n
    else if sgAt l i = [40] then if 40 ≤ d then .bad i 8 else (bin l f (i + 1) (d + 1) 1).bind fun e n => if sgAt l n = [41] then .ok e (n + 1) else .bad n 7
    else .bad i 7
/-- An expression whose operators have at least this rank. -/
def bin (l : TL) : Nat → Nat → Nat → Int → Res
  | 0, i, _, _ => .bad i 7
  | f + 1, i, d, least => (opd l f i d).bind fun e n => lop l f e n d least
/-- What follows an operand that was read. -/
def lop (l : TL) : Nat → Ex → Nat → Nat → Int → Res
  | 0, _, i, _, _ => .bad i 7
  | f + 1, left, i, d, least =>
    if (opB (sgAt l i)).2 < least then .ok left i
    else (bin l f (i + 1) d ((opB (sgAt l i)).2 + 1)).bind fun r n => (madeR ⟨5, (opB (sgAt l i)).1, 0, [], [left, r]⟩ n).bind fun e m => lop l f e m d least
end
def fuelOf (l : TL) : Nat := 2 * l.length + 4
def parseR (l : TL) (i d : Nat) : Res := bin l (fuelOf l) i d 1

/-! ### lists -/
inductive ResL
  | ok (l : List Ex) (nx : Nat)
  | bad (i : Nat) (err : Int)
def lstR (l : TL) (d : Nat) : Nat → List Ex → Nat → ResL
  | 0, _, i => .bad i 7
  | f + 1, acc, i => match parseR l i d with
    | .bad j c => .bad j c
    | .ok e n => if sgAt l n = [44] then lstR l d f (acc ++ [e]) (n + 1) else if sgAt l n = [41] then .ok (acc ++ [e]) (n + 1) else .bad n 7
def listR (l : TL) (i d : Nat) : ResL :=
  if sgAt l i = [40] then if sgAt l (i + 1) = [41] then .ok [] (i + 2) else lstR l d (l.length + 1) [] (i + 1) else .bad i 7

/-! ### how far they read -/
theorem sgAt_lt {l : TL} {i : Nat} {s : Bytes} (h : sgAt l i = s) (hs : s ≠ []) : i < l.length := by
  rcases Nat.lt_or_ge i l.length with h1 | h1
  · exact h1
  · exfalso; apply hs; rw [← h]; unfold sgAt tkAt; rw [List.getElem?_eq_none h1]; rfl
theorem kind_lt {l : TL} {i : Nat} (h : (tkAt l i).1 ≠ 0) : i < l.length := by
  rcases Nat.lt_or_ge i l.length with h1 | h1
  · exact h1
  · exfalso; apply h; unfold tkAt; rw [List.getElem?_eq_none h1]; rfl
theorem opB_nil : opB [] = (0, 0) := by decide
theorem opB_rank (s : Bytes) : opB s = (0, 0) ∨ (1 ≤ (opB s).2 ∧ (opB s).2 ≤ 5 ∧ 1 ≤ (opB s).1 ∧ (opB s).1 ≤ 13) := by
  unfold opB
  cases h : opsL.find? (fun r => r.1 == s) with
  | none => exact .inl rfl
  | some r =>
    have hm := List.mem_of_find?_eq_some h
    right
    revert r
    simp only [opsL, List.mem_cons, List.not_mem_nil, or_false]
    rintro r _ (rfl | rfl | rfl | rfl | rfl | rfl | rfl | rfl | rfl | rfl | rfl | rfl | rfl) <;> decide
/-- A result lies within the tokens: behind i, or (an error) from i on. -/
def Res.within (l : TL) (i : Nat) : Res → Prop
  | .ok _ n => i < n ∧ n ≤ l.length
  | .bad j _ => i ≤ j ∧ j ≤ l.length
theorem Res.bind_within {l : TL} {i : Nat} {r : Res} {f : Ex → Nat → Res} (h : r.within l i) (hf : ∀ e n, r = .ok e n → (f e n).within l i) : (r.bind f).within l i := by
  cases r with
  | ok e n => exact hf e n rfl
  | bad j c => exact h
theorem Res.within.mono {l : TL} {i j : Nat} {r : Res} (h : r.within l j) (hij : i ≤ j) : r.within l i := by
  cases r <;> simp only [Res.within] at * <;> omega
theorem madeR_within {l : TL} {i n : Nat} {e : Ex} (h1 : i < n) (h2 : n ≤ l.length) : (madeR e n).within l i := by
  unfold madeR
  split <;> simp only [Res.within] <;> omega
end Go.Proofs.YtipepljmfgjbpaaGreatDoor.E5

namespace Go.Proofs.YtipepljmfgjbpaaGreatDoor.E5
open Go Go.Proofs.YtipepljmfgjbpaaGreatDoor

theorem numR_within {l : TL} {i : Nat} (h : i < l.length) : (numR l i).within l i := by
  unfold numR; split <;> simp only [Res.within] <;> omega
theorem nmTok_lt {l : TL} {i : Nat} (h : nmTok (tkAt l i) = true) : i < l.length := kind_lt (by
  unfold nmTok at h; simp at h; omega)
theorem keyR_within {l : TL} {i : Nat} (h : i < l.length) : (keyR l i).within l i := by
  unfold keyR lenR
  split
  · simp only [Res.within]; omega
  split
  · simp only [Res.within]; omega
  split
  · split
    · rename_i h1
      have := sgAt_lt h1 (by simp)
      split
      · rename_i h2
        have := nmTok_lt h2
        split
        · rename_i h3
          have := sgAt_lt h3 (by simp)
          simp only [Res.within]; omega
        · simp only [Res.within]; omega
      · simp only [Res.within]; omega
    · simp only [Res.within]; omega
  · simp only [Res.within]; omega

theorem reach (l : TL) : ∀ f, (∀ i d, i ≤ l.length → (opd l f i d).within l i) ∧ (∀ i d m, 1 ≤ m → i ≤ l.length → (bin l f i d m).within l i) ∧ (∀ e i d m, 1 ≤ i → 1 ≤ m → i ≤ l.length → (lop l f e i d m).within l (i - 1)) := by
  intro f
  induction f with
  | zero =>
    refine ⟨fun i d h => ?_, fun i d m hm h => ?_, fun e i d m h1 h2 h3 => ?_⟩
    · rw [opd]; simp only [Res.within]; omega
    · rw [bin]; simp only [Res.within]; omega
    · rw [lop]; simp only [Res.within]; omega
  | succ f ih =>
    obtain ⟨ho, hb, hl⟩ := ih
    refine ⟨fun i d h => ?_, fun i d m hm h => ?_, fun e i d m h1 h2 h3 => ?_⟩
    · rw [opd]
      split
      · rename_i hk; exact numR_within (kind_lt (by omega))
      split
      · rename_i hk
        have hi := kind_lt (l := l) (i := i) (by omega)
        split
        · split
          · rename_i hs
            have := sgAt_lt hs (by simp)
            split
            · simp only [Res.within]; omega
            · refine Res.bind_within ((hb (i + 2) (d + 1) 1 (by omega) (by omega)).mono (by omega)) fun e n he => ?_
              have h4 := hb (i + 2) (d + 1) 1 (by omega) (by omega)
              rw [he] at h4
              simp only [Res.within] at h4
              split
              · rename_i h5; have := sgAt_lt h5 (by simp); exact madeR_within (by omega) (by omega)
              · simp only [Res.within]; omega
          · simp only [Res.within]; omega
        · simp only [Res.within]; omega
      split
      · rename_i hk; exact keyR_within (kind_lt (by omega))
      split
      · rename_i hs
        have := sgAt_lt hs (by simp)
        split
        · simp only [Res.within]; omega
        · have h4 := ho (i + 1) (d + 1) (by omega)
          refine Res.bind_within (h4.mono (by omega)) fun e n he => ?_
          rw [he] at h4
          simp only [Res.within] at h4
          exact madeR_within (by omega) (by omega)
      split
      · rename_i hs
        have := sgAt_lt hs (by simp)
        split
        · simp only [Res.within]; omega
        · have h4 := ho (i + 1) (d + 1) (by omega)
          refine Res.bind_within (h4.mono (by omega)) fun e n he => ?_
          rw [he] at h4
          simp only [Res.within] at h4
          exact madeR_within (by omega) (by omega)
      split
      · rename_i hs
        have := sgAt_lt hs (by simp)
        split
        · simp only [Res.within]; omega
        · have h4 := hb (i + 1) (d + 1) 1 (by omega) (by omega)
          refine Res.bind_within (h4.mono (by omega)) fun e n he => ?_
          rw [he] at h4
          simp only [Res.within] at h4
          split
          · rename_i h5; have := sgAt_lt h5 (by simp); simp only [Res.within]; omega
          · simp only [Res.within]; omega
      · simp only [Res.within]; omega
    · rw [bin]
      have h4 := ho i d h
      refine Res.bind_within h4 fun e n he => ?_
      rw [he] at h4
      simp only [Res.within] at h4
      exact (hl e n d m (by omega) hm (by omega)).mono (by omega)
    · rw [lop]
      split
      · simp only [Res.within]; omega
      · rename_i hr
        have hi : i < l.length := by
          rcases Nat.lt_or_ge i l.length with h4 | h4
          · exact h4
          · exfalso; apply hr
            have : sgAt l i = [] := by unfold sgAt tkAt; rw [List.getElem?_eq_none h4]; rfl
            rw [this, opB_nil]; simp only; omega
        have h4 := hb (i + 1) d ((opB (sgAt l i)).2 + 1) (by omega) (by omega)
        refine Res.bind_within (h4.mono (by omega)) fun r n he => ?_
        rw [he] at h4
        simp only [Res.within] at h4
        have h5 : (madeR ⟨5, (opB (sgAt l i)).1, 0, [], [e, r]⟩ n).within l i := madeR_within (by omega) (by omega)
        refine Res.bind_within (h5.mono (by omega)) fun x k hx => ?_
        rw [hx] at h5
        simp only [Res.within] at h5
        exact (hl x k d m (by omega) h2 (by omega)).mono (by omega)

theorem Res.bind_congr {r : Res} {f g : Ex → Nat → Res} (h : ∀ e n, r = .ok e n → f e n = g e n) : r.bind f = r.bind g := by
  cases r with
  | ok e n => exact h e n rfl
  | bad j c => rfl
/-- Fuel does not matter if there is enough. -/
theorem enough (l : TL) : ∀ f, (∀ f' i d, i ≤ l.length → 2 * (l.length - i) + 1 ≤ f → 2 * (l.length - i) + 1 ≤ f' → opd l f i d = opd l f' i d) ∧
    (∀ f' i d m, 1 ≤ m → i ≤ l.length → 2 * (l.length - i) + 2 ≤ f → 2 * (l.length - i) + 2 ≤ f' → bin l f i d m = bin l f' i d m) ∧
    (∀ f' e i d m, 1 ≤ i → 1 ≤ m → i ≤ l.length → 2 * (l.length - i) + 1 ≤ f → 2 * (l.length - i) + 1 ≤ f' → lop l f e i d m = lop l f' e i d m) := by
  intro f
  induction f with
  | zero => exact ⟨fun f' i d h h1 => by omega, fun f' i d m _ h h1 => by omega, fun f' e i d m _ _ h h1 => by omega⟩
  | succ f ih =>
    obtain ⟨ho, hb, hl⟩ := ih
    refine ⟨fun f' i d h h1 h2 => ?_, fun f' i d m hm h h1 h2 => ?_, fun f' e i d m hi hm h h1 h2 => ?_⟩
    · obtain ⟨f', rfl⟩ : ∃ k, f' = k + 1 := ⟨f' - 1, by omega⟩
      rw [opd, opd]
      split
      · rfl
      split
      · rename_i hk
        have hi := kind_lt (l := l) (i := i) (by omega)
        split
        · split
          · rename_i hs
            have := sgAt_lt hs (by simp)
            rw [hb f' (i + 2) (d + 1) 1 (by omega) (by omega) (by omega) (by omega)]
          · rfl
        · rfl
      split
      · rfl
      split
      · rename_i hs
        have := sgAt_lt hs (by simp)
        rw [ho f' (i + 1) (d + 1) (by omega) (by omega) (by omega)]
      split
      · rename_i hs
        have := sgAt_lt hs (by simp)
        rw [ho f' (i + 1) (d + 1) (by omega) (by omega) (by omega)]
      split
      · rename_i hs
        have := sgAt_lt hs (by simp)
        rw [hb f' (i + 1) (d + 1) 1 (by omega) (by omega) (by omega) (by omega)]
      · rfl
    · obtain ⟨f', rfl⟩ : ∃ k, f' = k + 1 := ⟨f' - 1, by omega⟩
      rw [bin, bin, ho f' i d h (by omega) (by omega)]
      refine Res.bind_congr fun e n he => ?_
      have h4 := (reach l f').1 i d h
      rw [he] at h4
      simp only [Res.within] at h4
      exact hl f' e n d m (by omega) hm (by omega) (by omega) (by omega)
    · obtain ⟨f', rfl⟩ : ∃ k, f' = k + 1 := ⟨f' - 1, by omega⟩
      rw [lop, lop]
      split
      · rfl
      · rename_i hr
        have hi : i < l.length := by
          rcases Nat.lt_or_ge i l.length with h4 | h4
          · exact h4
          · exfalso; apply hr
            have : sgAt l i = [] := by unfold sgAt tkAt; rw [List.getElem?_eq_none h4]; rfl
            rw [this, opB_nil]; simp only; omega
        rw [hb f' (i + 1) d _ (by omega) (by omega) (by omega) (by omega)]
        refine Res.bind_congr fun r n he => ?_
        have h4 := (reach l f').2.1 (i + 1) d ((opB (sgAt l i)).2 + 1) (by omega) (by omega)
        rw [he] at h4
        simp only [Res.within] at h4
        refine Res.bind_congr fun x k hx => ?_
        have h5 : (madeR ⟨5, (opB (sgAt l i)).1, 0, [], [e, r]⟩ n).within l i := madeR_within (by omega) (by omega)
        rw [hx] at h5
        simp only [Res.within] at h5
        exact hl f' x k d m (by omega) hm (by omega) (by omega) (by omega)

/-! ### without fuel -/
def opdR (l : TL) (i d : Nat) : Res := opd l (fuelOf l) i d
def binR (l : TL) (i d : Nat) (m : Int) : Res := bin l (fuelOf l) i d m
def lopR (l : TL) (e : Ex) (i d : Nat) (m : Int) : Res := lop l (fuelOf l) e i d m
theorem opdR_within (l : TL) (i d : Nat) (h : i ≤ l.length) : (opdR l i d).within l i := (reach l _).1 i d h
theorem binR_within (l : TL) (i d : Nat) (m : Int) (hm : 1 ≤ m) (h : i ≤ l.length) : (binR l i d m).within l i := (reach l _).2.1 i d m hm h
theorem parseR_is (l : TL) (i d : Nat) : parseR l i d = binR l i d 1 := rfl
theorem opdR_eq (l : TL) (i d : Nat) (_h : i ≤ l.length) : opdR l i d =
    if (tkAt l i).1 = 2 then numR l i
    else if (tkAt l i).1 = 1 then
      if S3.nameB (tkAt l i).2 then
        if sgAt l (i + 1) = [91] then
          if 40 ≤ d then .bad (i + 1) 8 else (binR l (i + 2) (d + 1) 1).bind fun e n => if sgAt l n = [93] then madeR ⟨6, 0, 0, (tkAt l i).2, [e]⟩ (n + 1) else .bad n 7
        else .ok ⟨3, 0, 0, (tkAt l i).2, []⟩ (i + 1)
      else .bad i 7
    else if (tkAt l i).1 = 3 then keyR l i
    else if sgAt l i = [45] then if 40 ≤ d then .bad i 8 else (opdR l (i + 1) (d + 1)).bind fun e n => madeR ⟨4, 14, 0, [], [e]⟩ n
    else if sgAt l i = [33] then if 40 ≤ d then .bad i 8 else (opdR l (i + 1) (d + 1)).bind fun e n => madeR ⟨4, 15, 0, [], [e]⟩ n
    else if sgAt l i = [40] then if 40 ≤ d then .bad i 8 else (binR l (i + 1) (d + 1) 1).bind fun e n => if sgAt l n = [41] then .ok e (n + 1) else .bad n 7
    else .bad i 7 := by
  have E := enough l (2 * l.length + 3)
  unfold opdR binR fuelOf
  rw [opd]
  split
  · rfl
  split
  · rename_i hk
    have hi := kind_lt (l := l) (i := i) (by omega)
    split
    · split
      · rename_i hs
        have := sgAt_lt hs (by simp)
        rw [E.2.1 (2 * l.length + 4) (i + 2) (d + 1) 1 (by omega) (by omega) (by omega) (by omega)]
      · rfl
    · rfl
  split
  · rfl
  split
  · rename_i hs
    have := sgAt_lt hs (by simp)
    rw [E.1 (2 * l.length + 4) (i + 1) (d + 1) (by omega) (by omega) (by omega)]
  split
  · rename_i hs
    have := sgAt_lt hs (by simp)
    rw [E.1 (2 * l.length + 4) (i + 1) (d + 1) (by omega) (by omega) (by omega)]
  split
  · rename_i hs
    have := sgAt_lt hs (by simp)
    rw [E.2.1 (2 * l.length + 4) (i + 1) (d + 1) 1 (by omega) (by omega) (by omega) (by omega)]
  · rfl
theorem binR_eq (l : TL) (i d : Nat) (m : Int) (hm : 1 ≤ m) (h : i ≤ l.length) : binR l i d m = (opdR l i d).bind fun e n => lopR l e n d m := by
  have E := enough l (2 * l.length + 3)
  unfold opdR binR lopR fuelOf
  rw [bin, E.1 (2 * l.length + 4) i d h (by omega) (by omega)]
  refine Res.bind_congr fun e n he => ?_
  have h4 := (reach l (2 * l.length + 4)).1 i d h
  rw [he] at h4
  simp only [Res.within] at h4
  exact E.2.2 (2 * l.length + 4) e n d m (by omega) hm (by omega) (by omega) (by omega)
theorem lopR_end (l : TL) (e : Ex) (i d : Nat) (m : Int) (h : (opB (sgAt l i)).2 < m) : lopR l e i d m = .ok e i := by
  unfold lopR fuelOf
  rw [lop, if_pos h]
theorem op_lt {l : TL} {i : Nat} {m : Int} (hm : 1 ≤ m) (hr : ¬ (opB (sgAt l i)).2 < m) : i < l.length := by
  rcases Nat.lt_or_ge i l.length with h4 | h4
  · exact h4
  · exfalso; apply hr
    have : sgAt l i = [] := by unfold sgAt tkAt; rw [List.getElem?_eq_none h4]; rfl
    rw [this, opB_nil]; simp only; omega
theorem lopR_eq (l : TL) (e : Ex) (i d : Nat) (m : Int) (hi : 1 ≤ i) (hm : 1 ≤ m) (h : ¬ (opB (sgAt l i)).2 < m) :
    lopR l e i d m = (binR l (i + 1) d ((opB (sgAt l i)).2 + 1)).bind fun r n => (madeR ⟨5, (opB (sgAt l i)).1, 0, [], [e, r]⟩ n).bind fun x k => lopR l x k d m := by
  have hl := op_lt hm h
  have E := enough l (2 * l.length + 3)
  unfold binR lopR fuelOf
  rw [lop, if_neg h, E.2.1 (2 * l.length + 4) (i + 1) d _ (by omega) (by omega) (by omega) (by omega)]
  refine Res.bind_congr fun r n he => ?_
  have h4 := (reach l (2 * l.length + 4)).2.1 (i + 1) d ((opB (sgAt l i)).2 + 1) (by omega) (by omega)
  rw [he] at h4
  simp only [Res.within] at h4
  refine Res.bind_congr fun x k hx => ?_
  have h5 : (madeR ⟨5, (opB (sgAt l i)).1, 0, [], [e, r]⟩ n).within l i := madeR_within (by omega) (by omega)
  rw [hx] at h5
  simp only [Res.within] at h5
  exact E.2.2 (2 * l.length + 4) x k d m (by omega) hm (by omega) (by omega) (by omega)
end Go.Proofs.YtipepljmfgjbpaaGreatDoor.E5
