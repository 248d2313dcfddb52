/-
  PLAIN WORDS FOR LAYER 6: statements read from tokens (kind, text), by fuel. No program is named here.
  PLAIN WORDS FOR LAYER 6: the codes of what is not read are 7 or 8. No program is named here.
-/
import Derived.Test.YtipepljmfgjbpaaGreatDoorEMath
namespace Go.Proofs.YtipepljmfgjbpaaGreatDoor.E6
open Go Go.Proofs.YtipepljmfgjbpaaGreatDoor Go.Proofs.YtipepljmfgjbpaaGreatDoor.E5

abbrev St := S3.St
theorem nm_lt {l : TL} {i : Nat} (h : nmTok (tkAt l i) = true) : i < l.length := kind_lt (by
  unfold nmTok at h; simp at h; omega)

/-! ### the words of types -/
def wInt : Bytes := [105, 110, 116]
def wBool : Bytes := [98, 111, 111, 108]
def wArray : Bytes := [97, 114, 114, 97, 121]
def typW (s : Bytes) : Int := if s = wInt then 1 else if s = wBool then 2 else if s = wArray then 3 else 0
def wordT (t : Int) : Bytes := if t = 1 then wInt else if t = 2 then wBool else if t = 3 then wArray else []
def wVar : Bytes := [118, 97, 114]
def wRead : Bytes := [114, 101, 97, 100]
def wPrint : Bytes := [112, 114, 105, 110, 116]
def wReturn : Bytes := [114, 101, 116, 117, 114, 110]
def wIf : Bytes := [105, 102]
def wWhile : Bytes := [119, 104, 105, 108, 101]
def wElse : Bytes := [101, 108, 115, 101]
def wNew : Bytes := [110, 101, 119]

inductive RS
  | ok (s : St) (nx : Nat)
  | bad (i : Nat) (err : Int)
inductive RBl
  | ok (l : List St) (nx : Nat)
  | bad (i : Nat) (err : Int)
/-- A statement that ends with a semicolon, at i. -/
def endS (l : TL) (s : St) (i : Nat) : RS := if sgAt l i = [59] then .ok s (i + 1) else .bad i 7
/-- A statement with one expression from i on, and a semicolon. -/
def valS (l : TL) (mk : Ex → St) (i : Nat) : RS := match parseR l i 0 with
  | .ok e n => endS l (mk e) n
  | .bad j c => .bad j c
def argS (l : TL) (mk : List Ex → St) (i : Nat) : RS := match listR l i 0 with
  | .ok es n => endS l (mk es) n
  | .bad j c => .bad j c
abbrev sVar (x : Bytes) (t : Int) (a : List Ex) : St := ⟨1, 0, x, t, [], a, [], []⟩
abbrev sSet (x : Bytes) (e : Ex) : St := ⟨2, 0, x, 0, [], [e], [], []⟩
abbrev sStore (x : Bytes) (e f : Ex) : St := ⟨3, 0, x, 0, [], [e, f], [], []⟩
abbrev sNew (x : Bytes) (e : Ex) : St := ⟨4, 0, x, 0, [], [e], [], []⟩
abbrev sRead (x : Bytes) : St := ⟨5, 0, x, 0, [], [], [], []⟩
abbrev sPrint (e : Ex) : St := ⟨6, 0, [], 0, [], [e], [], []⟩
abbrev sCall (x f : Bytes) (a : List Ex) : St := ⟨7, 0, x, 0, f, a, [], []⟩
abbrev sRet (a : List Ex) : St := ⟨8, 0, [], 0, [], a, [], []⟩
abbrev sIf (e : Ex) (b c : List St) : St := ⟨9, 0, [], 0, [], [e], b, c⟩
abbrev sWhile (e : Ex) (b : List St) : St := ⟨10, 0, [], 0, [], [e], b, []⟩
/-- Behind var. -/
def varS (l : TL) (i : Nat) : RS :=
  if nmTok (tkAt l i) then
    if typW (kwAt l (i + 1)) = 0 then .bad (i + 1) 7
    else if sgAt l (i + 2) = [61] then valS l (fun e => sVar (tkAt l i).2 (typW (kwAt l (i + 1))) [e]) (i + 3)
    else endS l (sVar (tkAt l i).2 (typW (kwAt l (i + 1))) []) (i + 2)
  else .bad i 7
def readS (l : TL) (i : Nat) : RS := if nmTok (tkAt l i) then endS l (sRead (tkAt l i).2) (i + 1) else .bad i 7
def retS (l : TL) (i : Nat) : RS := if sgAt l i = [59] then .ok (sRet []) (i + 1) else valS l (fun e => sRet [e]) i
/-- Behind the name and [. -/
def storS (l : TL) (x : Bytes) (i : Nat) : RS := match parseR l i 0 with
  | .bad j c => .bad j c
  | .ok e n => if sgAt l n = [93] then if sgAt l (n + 1) = [61] then valS l (fun f => sStore x e f) (n + 2) else .bad (n + 1) 7 else .bad n 7
/-- Behind the name and =. -/
def asgS (l : TL) (x : Bytes) (i : Nat) : RS :=
  if kwAt l i = wNew then valS l (fun e => sNew x e) (i + 1)
  else if (tkAt l i).1 = 1 ∧ sgAt l (i + 1) = [40] then if nmTok (tkAt l i) then argS l (fun a => sCall x (tkAt l i).2 a) (i + 1) else .bad i 7
  else valS l (fun e => sSet x e) i
def namS (l : TL) (i : Nat) : RS :=
  if nmTok (tkAt l i) then
    if sgAt l (i + 1) = [61] then asgS l (tkAt l i).2 (i + 2)
    else if sgAt l (i + 1) = [91] then storS l (tkAt l i).2 (i + 2)
    else argS l (fun a => sCall [] (tkAt l i).2 a) (i + 1)
  else .bad i 7
/-- Behind if: the block by B. -/
def ifS (l : TL) (B : Nat → RBl) (i : Nat) : RS := match parseR l i 0 with
  | .bad j c => .bad j c
  | .ok e n => match B n with
    | .bad j c => .bad j c
    | .ok b m => if kwAt l m = wElse then match B (m + 1) with
        | .bad j c => .bad j c
        | .ok b' k => .ok (sIf e b b') k
      else .ok (sIf e b []) m
def whS (l : TL) (B : Nat → RBl) (i : Nat) : RS := match parseR l i 0 with
  | .bad j c => .bad j c
  | .ok e n => match B n with
    | .bad j c => .bad j c
    | .ok b m => .ok (sWhile e b) m
/-- A statement from i on, its blocks by B. -/
def oneS (l : TL) (B : Nat → RBl) (i : Nat) : RS :=
  if kwAt l i = wVar then varS l (i + 1)
  else if kwAt l i = wRead then readS l (i + 1)
  else if kwAt l i = wPrint then valS l sPrint (i + 1)
  else if kwAt l i = wReturn then retS l (i + 1)
  else if kwAt l i = wIf then ifS l B (i + 1)
  else if kwAt l i = wWhile then whS l B (i + 1)
  else namS l i
mutual
def stF (l : TL) : Nat → Nat → Nat → RS
  | 0, i, _ => .bad i 7
  | f + 1, i, d => oneS l (fun n => blF l f n (d + 1)) i
def blF (l : TL) : Nat → Nat → Nat → RBl
  | 0, i, _ => .bad i 7
  | f + 1, i, d => if sgAt l i = [123] then if 20 < d then .bad i 8 else lsF l f [] (i + 1) d else .bad i 7
def lsF (l : TL) : Nat → List St → Nat → Nat → RBl
  | 0, _, i, _ => .bad i 7
  | f + 1, acc, i, d => if sgAt l i = [125] then .ok acc (i + 1) else match stF l f i d with
    | .bad j c => .bad j c
    | .ok s n => lsF l f (acc ++ [s]) n d
end

/-! ### how far they read -/
def RS.within (l : TL) (i : Nat) : RS → Prop
  | .ok _ n => i < n ∧ n ≤ l.length
  | .bad j _ => i ≤ j ∧ j ≤ l.length
def RBl.within (l : TL) (i : Nat) : RBl → Prop
  | .ok _ n => i < n ∧ n ≤ l.length
  | .bad j _ => i ≤ j ∧ j ≤ l.length
theorem RS.within.mono {l : TL} {i j : Nat} {r : RS} (h : r.within l j) (hij : i ≤ j) : r.within l i := by
  cases r <;> simp only [RS.within] at * <;> omega
theorem parseR_within (l : TL) (i d : Nat) (h : i ≤ l.length) : (parseR l i d).within l i := by rw [parseR_is]; exact binR_within l i d 1 (by omega) h
def _root_.Go.Proofs.YtipepljmfgjbpaaGreatDoor.E5.ResL.within (l : TL) (i : Nat) : ResL → Prop
  | .ok _ n => i < n ∧ n ≤ l.length
  | .bad j _ => i ≤ j ∧ j ≤ l.length
theorem lstR_within (l : TL) (d : Nat) : ∀ (f : Nat) (acc : List Ex) (i : Nat), i ≤ l.length → (lstR l d f acc i).within l i := by
  intro f
  induction f with
  | zero => intro acc i h; rw [lstR]; simp only [ResL.within]; omega
  | succ f ih =>
    intro acc i h
    have hp := parseR_within l i d h
    rw [lstR]
    cases hr : parseR l i d with
    | bad j c => rw [hr] at hp; exact hp
    | ok e n =>
      rw [hr] at hp
      simp only [Res.within] at hp
      simp only
      by_cases h1 : sgAt l n = [44]
      · rw [if_pos h1]
        have := sgAt_lt h1 (by simp)
        have h2 := ih (acc ++ [e]) (n + 1) this
        cases hq : lstR l d f (acc ++ [e]) (n + 1) <;> rw [hq] at h2 <;> simp only [ResL.within] at * <;> omega
      · rw [if_neg h1]
        by_cases h2 : sgAt l n = [41]
        · rw [if_pos h2]
          have := sgAt_lt h2 (by simp)
          simp only [ResL.within]; omega
        · rw [if_neg h2]; simp only [ResL.within]; omega
theorem listR_within (l : TL) (i d : Nat) (h : i ≤ l.length) : (listR l i d).within l i := by
  unfold listR
  by_cases h1 : sgAt l i = [40]
  · rw [if_pos h1]
    have h1 := sgAt_lt h1 (by simp)
    by_cases h2 : sgAt l (i + 1) = [41]
    · rw [if_pos h2]
      have h2 := sgAt_lt h2 (by simp)
      simp only [ResL.within]; omega
    · rw [if_neg h2]
      have h3 := lstR_within l d (l.length + 1) [] (i + 1) h1
      cases hq : lstR l d (l.length + 1) [] (i + 1) <;> rw [hq] at h3 <;> simp only [ResL.within] at * <;> omega
  · rw [if_neg h1]; simp only [ResL.within]; omega
theorem endS_within {l : TL} {s : St} {i k : Nat} (h : i ≤ l.length) (hk : k ≤ i) : (endS l s i).within l k := by
  unfold endS
  split
  · rename_i h1; have := sgAt_lt h1 (by simp); simp only [RS.within]; omega
  · simp only [RS.within]; omega
theorem valS_within {l : TL} {mk : Ex → St} {i k : Nat} (h : i ≤ l.length) (hk : k ≤ i) : (valS l mk i).within l k := by
  have hp := parseR_within l i 0 h
  unfold valS
  cases hr : parseR l i 0 with
  | bad j c => rw [hr] at hp; simp only [RS.within, Res.within] at *; omega
  | ok e n => rw [hr] at hp; simp only [Res.within] at hp; exact endS_within (by omega) (by omega)
theorem argS_within {l : TL} {mk : List Ex → St} {i k : Nat} (h : i ≤ l.length) (hk : k ≤ i) : (argS l mk i).within l k := by
  have hp := listR_within l i 0 h
  unfold argS
  cases hr : listR l i 0 with
  | bad j c => rw [hr] at hp; simp only [RS.within, ResL.within] at *; omega
  | ok e n => rw [hr] at hp; simp only [ResL.within] at hp; exact endS_within (by omega) (by omega)
theorem varS_within {l : TL} {i k : Nat} (h : i ≤ l.length) (hk : k ≤ i) : (varS l i).within l k := by
  unfold varS
  split
  · rename_i h1
    have h1 := nm_lt h1
    split
    · simp only [RS.within]; omega
    · rename_i h2
      have h2 : i + 1 < l.length := by
        rcases Nat.lt_or_ge (i + 1) l.length with h3 | h3
        · exact h3
        · exfalso; apply h2
          have : kwAt l (i + 1) = [] := by unfold kwAt tkAt; rw [List.getElem?_eq_none h3]; rfl
          rw [this]; decide
      split
      · rename_i h3; have := sgAt_lt h3 (by simp); exact valS_within (by omega) (by omega)
      · exact endS_within (by omega) (by omega)
  · simp only [RS.within]; omega
theorem readS_within {l : TL} {i k : Nat} (h : i ≤ l.length) (hk : k ≤ i) : (readS l i).within l k := by
  unfold readS
  split
  · rename_i h1; have := nm_lt h1; exact endS_within (by omega) (by omega)
  · simp only [RS.within]; omega
theorem retS_within {l : TL} {i k : Nat} (h : i ≤ l.length) (hk : k ≤ i) : (retS l i).within l k := by
  unfold retS
  split
  · rename_i h1; have := sgAt_lt h1 (by simp); simp only [RS.within]; omega
  · exact valS_within h hk
theorem storS_within {l : TL} {x : Bytes} {i k : Nat} (h : i ≤ l.length) (hk : k ≤ i) : (storS l x i).within l k := by
  have hp := parseR_within l i 0 h
  unfold storS
  cases hr : parseR l i 0 with
  | bad j c => rw [hr] at hp; simp only [RS.within, Res.within] at *; omega
  | ok e n =>
    rw [hr] at hp
    simp only [Res.within] at hp
    simp only
    split
    · rename_i h1
      have := sgAt_lt h1 (by simp)
      split
      · rename_i h2; have := sgAt_lt h2 (by simp); exact valS_within (by omega) (by omega)
      · simp only [RS.within]; omega
    · simp only [RS.within]; omega
theorem asgS_within {l : TL} {x : Bytes} {i k : Nat} (h : i ≤ l.length) (hk : k ≤ i) : (asgS l x i).within l k := by
  unfold asgS
  split
  · rename_i h1; have := kwAt_lt h1 (by decide); exact valS_within (by omega) (by omega)
  · split
    · rename_i h1
      have := kind_lt (l := l) (i := i) (by omega)
      split
      · exact argS_within (by omega) (by omega)
      · simp only [RS.within]; omega
    · exact valS_within h hk
theorem namS_within {l : TL} {i k : Nat} (h : i ≤ l.length) (hk : k ≤ i) : (namS l i).within l k := by
  unfold namS
  split
  · rename_i h1
    have := nm_lt h1
    split
    · rename_i h2; have := sgAt_lt h2 (by simp); exact asgS_within (by omega) (by omega)
    · split
      · rename_i h2; have := sgAt_lt h2 (by simp); exact storS_within (by omega) (by omega)
      · exact argS_within (by omega) (by omega)
  · simp only [RS.within]; omega
theorem ifS_within {l : TL} {B : Nat → RBl} {i k : Nat} (h : i ≤ l.length) (hk : k ≤ i) (hB : ∀ n, i ≤ n → n ≤ l.length → (B n).within l n) : (ifS l B i).within l k := by
  have hp := parseR_within l i 0 h
  unfold ifS
  cases hr : parseR l i 0 with
  | bad j c => rw [hr] at hp; simp only [RS.within, Res.within] at *; omega
  | ok e n =>
    rw [hr] at hp
    simp only [Res.within] at hp
    have h1 := hB n (by omega) (by omega)
    simp only
    cases hb : B n with
    | bad j c => rw [hb] at h1; simp only [RS.within, RBl.within] at *; omega
    | ok b m =>
      rw [hb] at h1
      simp only [RBl.within] at h1
      simp only
      split
      · rename_i h2
        have := kwAt_lt h2 (by decide)
        have h3 := hB (m + 1) (by omega) (by omega)
        cases hc : B (m + 1) with
        | bad j c => rw [hc] at h3; simp only [RS.within, RBl.within] at *; omega
        | ok b' k' => rw [hc] at h3; simp only [RS.within, RBl.within] at *; omega
      · simp only [RS.within]; omega
theorem whS_within {l : TL} {B : Nat → RBl} {i k : Nat} (h : i ≤ l.length) (hk : k ≤ i) (hB : ∀ n, i ≤ n → n ≤ l.length → (B n).within l n) : (whS l B i).within l k := by
  have hp := parseR_within l i 0 h
  unfold whS
  cases hr : parseR l i 0 with
  | bad j c => rw [hr] at hp; simp only [RS.within, Res.within] at *; omega
  | ok e n =>
    rw [hr] at hp
    simp only [Res.within] at hp
    have h1 := hB n (by omega) (by omega)
    simp only
    cases hb : B n with
    | bad j c => rw [hb] at h1; simp only [RS.within, RBl.within] at *; omega
    | ok b m => rw [hb] at h1; simp only [RS.within, RBl.within] at *; omega
theorem oneS_within {l : TL} {B : Nat → RBl} {i : Nat} (h : i ≤ l.length) (hB : ∀ n, i + 1 ≤ n → n ≤ l.length → (B n).within l n) : (oneS l B i).within l i := by
  unfold oneS
  split
  · rename_i h1; have := kwAt_lt h1 (by decide); exact varS_within (by omega) (by omega)
  split
  · rename_i h1; have := kwAt_lt h1 (by decide); exact readS_within (by omega) (by omega)
  split
  · rename_i h1; have := kwAt_lt h1 (by decide); exact valS_within (by omega) (by omega)
  split
  · rename_i h1; have := kwAt_lt h1 (by decide); exact retS_within (by omega) (by omega)
  split
  · rename_i h1; have := kwAt_lt h1 (by decide); exact ifS_within (by omega) (by omega) hB
  split
  · rename_i h1; have := kwAt_lt h1 (by decide); exact whS_within (by omega) (by omega) hB
  · exact namS_within h (Nat.le_refl _)
theorem reach (l : TL) : ∀ f, (∀ i d, i ≤ l.length → (stF l f i d).within l i) ∧ (∀ i d, i ≤ l.length → (blF l f i d).within l i) ∧ (∀ acc i d, i ≤ l.length → (lsF l f acc i d).within l i) := by
  intro f
  induction f with
  | zero =>
    refine ⟨fun i d h => ?_, fun i d h => ?_, fun acc i d h => ?_⟩
    · rw [stF]; simp only [RS.within]; omega
    · rw [blF]; simp only [RBl.within]; omega
    · rw [lsF]; simp only [RBl.within]; omega
  | succ f ih =>
    obtain ⟨hs, hb, hl⟩ := ih
    refine ⟨fun i d h => ?_, fun i d h => ?_, fun acc i d h => ?_⟩
    · rw [stF]; exact oneS_within h fun n _ hn => hb n (d + 1) hn
    · rw [blF]
      split
      · rename_i h1
        have := sgAt_lt h1 (by simp)
        split
        · simp only [RBl.within]; omega
        · have h2 := hl [] (i + 1) d (by omega)
          cases hr : lsF l f [] (i + 1) d <;> rw [hr] at h2 <;> simp only [RBl.within] at * <;> omega
      · simp only [RBl.within]; omega
    · rw [lsF]
      split
      · rename_i h1
        have := sgAt_lt h1 (by simp)
        simp only [RBl.within]; omega
      · have h1 := hs i d h
        cases hr : stF l f i d with
        | bad j c => rw [hr] at h1; exact h1
        | ok s n =>
          rw [hr] at h1
          simp only [RS.within] at h1
          have h2 := hl (acc ++ [s]) n d (by omega)
          simp only
          cases hq : lsF l f (acc ++ [s]) n d <;> rw [hq] at h2 <;> simp only [RBl.within] at * <;> omega

/-! ### fuel does not matter if there is enough -/
theorem ifS_congr {l : TL} {B C : Nat → RBl} {i : Nat} (hi : i ≤ l.length) (hB : ∀ n, i ≤ n → n ≤ l.length → (B n).within l n) (h : ∀ n, i < n → n ≤ l.length → B n = C n) : ifS l B i = ifS l C i := by
  have hp := parseR_within l i 0 hi
  unfold ifS
  cases hr : parseR l i 0 with
  | bad j c => rfl
  | ok e n =>
    rw [hr] at hp
    simp only [Res.within] at hp
    simp only
    have h1 := hB n (by omega) (by omega)
    rw [← h n (by omega) (by omega)]
    cases hb : B n with
    | bad j c => rfl
    | ok b m =>
      rw [hb] at h1
      simp only [RBl.within] at h1
      simp only
      split
      · rename_i h2
        have := kwAt_lt h2 (by decide)
        rw [← h (m + 1) (by omega) (by omega)]
      · rfl
theorem whS_congr {l : TL} {B C : Nat → RBl} {i : Nat} (hi : i ≤ l.length) (h : ∀ n, i < n → n ≤ l.length → B n = C n) : whS l B i = whS l C i := by
  have hp := parseR_within l i 0 hi
  unfold whS
  cases hr : parseR l i 0 with
  | bad j c => rfl
  | ok e n =>
    rw [hr] at hp
    simp only [Res.within] at hp
    simp only
    rw [← h n (by omega) (by omega)]
theorem oneS_congr {l : TL} {B C : Nat → RBl} {i : Nat} (_hi : i ≤ l.length) (hB : ∀ n, i < n → n ≤ l.length → (B n).within l n) (h : ∀ n, i < n → n ≤ l.length → B n = C n) : oneS l B i = oneS l C i := by
  unfold oneS
  split
  · rfl
  split
  · rfl
  split
  · rfl
  split
  · rfl
  split
  · rename_i h1; have := kwAt_lt h1 (by decide); exact ifS_congr (by omega) (fun n h2 h3 => hB n (by omega) h3) fun n h2 h3 => h n (by omega) h3
  split
  · rename_i h1; have := kwAt_lt h1 (by decide); exact whS_congr (by omega) fun n h2 h3 => h n (by omega) h3
  · rfl
theorem enough (l : TL) : ∀ f, (∀ f' i d, i ≤ l.length → 2 * (l.length - i) + 1 ≤ f → 2 * (l.length - i) + 1 ≤ f' → stF l f i d = stF l f' i d) ∧
    (∀ f' i d, i ≤ l.length → 2 * (l.length - i) + 1 ≤ f → 2 * (l.length - i) + 1 ≤ f' → blF l f i d = blF l f' i d) ∧
    (∀ f' acc i d, i ≤ l.length → 2 * (l.length - i) + 2 ≤ f → 2 * (l.length - i) + 2 ≤ f' → lsF l f acc i d = lsF l f' acc i d) := by
  intro f
  induction f with
  | zero => exact ⟨fun f' i d h h1 => by omega, fun f' i d h h1 => by omega, fun f' acc i d h h1 => by omega⟩
  | succ f ih =>
    obtain ⟨hs, hb, hl⟩ := ih
    refine ⟨fun f' i d h h1 h2 => ?_, fun f' i d h h1 h2 => ?_, fun f' acc i d h h1 h2 => ?_⟩
    · obtain ⟨f', rfl⟩ : ∃ k, f' = k + 1 := ⟨f' - 1, by omega⟩
      rw [stF, stF]
      exact oneS_congr h (fun n _ hn => (reach l f).2.1 n (d + 1) hn) fun n h3 h4 => hb f' n (d + 1) h4 (by omega) (by omega)
    · obtain ⟨f', rfl⟩ : ∃ k, f' = k + 1 := ⟨f' - 1, by omega⟩
      rw [blF, blF]
      split
      · rename_i h3
        have := sgAt_lt h3 (by simp)
        split
        · rfl
        · exact hl f' [] (i + 1) d (by omega) (by omega) (by omega)
      · rfl
    · obtain ⟨f', rfl⟩ : ∃ k, f' = k + 1 := ⟨f' - 1, by omega⟩
      rw [lsF, lsF]
      split
      · rfl
      · rw [hs f' i d h (by omega) (by omega)]
        have h3 := (reach l f').1 i d h
        cases hr : stF l f' i d with
        | bad j c => rfl
        | ok s n =>
          rw [hr] at h3
          simp only [RS.within] at h3
          exact hl f' (acc ++ [s]) n d (by omega) (by omega) (by omega)

/-! ### without fuel -/
def fuelS (l : TL) : Nat := 2 * l.length + 3
def stR (l : TL) (i d : Nat) : RS := stF l (fuelS l) i d
def blR (l : TL) (i d : Nat) : RBl := blF l (fuelS l) i d
def lsR (l : TL) (acc : List St) (i d : Nat) : RBl := lsF l (fuelS l) acc i d
theorem stR_within (l : TL) (i d : Nat) (h : i ≤ l.length) : (stR l i d).within l i := (reach l _).1 i d h
theorem blR_within (l : TL) (i d : Nat) (h : i ≤ l.length) : (blR l i d).within l i := (reach l _).2.1 i d h
theorem stR_eq (l : TL) (i d : Nat) (h : i ≤ l.length) : stR l i d = oneS l (fun n => blR l n (d + 1)) i := by
  unfold stR fuelS
  rw [stF]
  exact oneS_congr h (fun n _ hn => (reach l _).2.1 n (d + 1) hn) fun n h3 h4 => (enough l (2 * l.length + 2)).2.1 (2 * l.length + 3) n (d + 1) h4 (by omega) (by omega)
theorem blR_eq (l : TL) (i d : Nat) (_h : i ≤ l.length) : blR l i d = if sgAt l i = [123] then if 20 < d then .bad i 8 else lsR l [] (i + 1) d else .bad i 7 := by
  unfold blR lsR fuelS
  rw [blF]
  split
  · rename_i h3
    have := sgAt_lt h3 (by simp)
    split
    · rfl
    · exact (enough l (2 * l.length + 2)).2.2 _ [] (i + 1) d (by omega) (by omega) (by omega)
  · rfl
theorem lsR_eq (l : TL) (acc : List St) (i d : Nat) (h : i ≤ l.length) : lsR l acc i d = if sgAt l i = [125] then .ok acc (i + 1) else match stR l i d with
    | .bad j c => .bad j c
    | .ok s n => lsR l (acc ++ [s]) n d := by
  unfold stR lsR fuelS
  rw [lsF]
  split
  · rfl
  · rw [(enough l (2 * l.length + 2)).1 (2 * l.length + 3) i d h (by omega) (by omega)]
    have h3 := (reach l (2 * l.length + 3)).1 i d h
    cases hr : stF l (2 * l.length + 3) i d with
    | bad j c => rfl
    | ok s n =>
      rw [hr] at h3
      simp only [RS.within] at h3
      exact (enough l (2 * l.length + 2)).2.2 _ (acc ++ [s]) n d (by omega) (by omega) (by omega)
end Go.Proofs.YtipepljmfgjbpaaGreatDoor.E6

namespace Go.Proofs.YtipepljmfgjbpaaGreatDoor.E6
open Go Go.Proofs.YtipepljmfgjbpaaGreatDoor Go.Proofs.YtipepljmfgjbpaaGreatDoor.E5

def Res.cd : Res → Prop
  | .ok _ _ => True
  | .bad _ c => c = 7 ∨ c = 8
theorem cd_bind {r : Res} {f : Ex → Nat → Res} (h : Res.cd r) (hf : ∀ e n, Res.cd (f e n)) : Res.cd (r.bind f) := by
  cases r with
  | ok e n => exact hf e n
  | bad j c => exact h
theorem cd_made (e : Ex) (n : Nat) : Res.cd (madeR e n) := by unfold madeR; split <;> simp [Res.cd]
theorem cd_len (l : TL) (i : Nat) : Res.cd (lenR l i) := by
  unfold lenR
  split
  · split
    · split <;> simp [Res.cd]
    · simp [Res.cd]
  · simp [Res.cd]
theorem cd_key (l : TL) (i : Nat) : Res.cd (keyR l i) := by
  unfold keyR
  split
  · simp [Res.cd]
  split
  · simp [Res.cd]
  split
  · exact cd_len l i
  · simp [Res.cd]
theorem cd_num (l : TL) (i : Nat) : Res.cd (numR l i) := by unfold numR; split <;> simp [Res.cd]
theorem cd_all (l : TL) : ∀ f, (∀ i d, Res.cd (opd l f i d)) ∧ (∀ i d m, Res.cd (bin l f i d m)) ∧ (∀ e i d m, Res.cd (lop l f e i d m)) := by
  intro f
  induction f with
  | zero =>
    refine ⟨fun i d => ?_, fun i d m => ?_, fun e i d m => ?_⟩
    · rw [opd]; simp [Res.cd]
    · rw [bin]; simp [Res.cd]
    · rw [lop]; simp [Res.cd]
  | succ f ih =>
    obtain ⟨h1, h2, h3⟩ := ih
    refine ⟨fun i d => ?_, fun i d m => ?_, fun e i d m => ?_⟩
    · rw [opd]
      split
      · exact cd_num l i
      split
      · split
        · split
          · split
            · simp [Res.cd]
            · refine cd_bind (h2 _ _ _) fun e n => ?_
              split
              · exact cd_made _ _
              · simp [Res.cd]
          · simp [Res.cd]
        · simp [Res.cd]
      split
      · exact cd_key l i
      split
      · split
        · simp [Res.cd]
        · exact cd_bind (h1 _ _) fun e n => cd_made _ _
      split
      · split
        · simp [Res.cd]
        · exact cd_bind (h1 _ _) fun e n => cd_made _ _
      split
      · split
        · simp [Res.cd]
        · refine cd_bind (h2 _ _ _) fun e n => ?_
          split <;> simp [Res.cd]
      · simp [Res.cd]
    · rw [bin]; exact cd_bind (h1 _ _) fun e n => h3 _ _ _ _
    · rw [lop]
      split
      · simp [Res.cd]
      · exact cd_bind (h2 _ _ _) fun r n => cd_bind (cd_made _ _) fun e m => h3 _ _ _ _
theorem parse_code {l : TL} {i d j : Nat} {c : Int} (h : parseR l i d = .bad j c) : c = 7 ∨ c = 8 := by
  have := (cd_all l (fuelOf l)).2.1 i d 1
  unfold parseR at h
  rw [h] at this
  exact this
theorem lst_code {l : TL} {d : Nat} : ∀ (f : Nat) (acc : List Ex) (i j : Nat) (c : Int), lstR l d f acc i = .bad j c → c = 7 ∨ c = 8 := by
  intro f
  induction f with
  | zero => intro acc i j c h; rw [lstR] at h; injection h with _ h; exact .inl h.symm
  | succ f ih =>
    intro acc i j c h
    rw [lstR] at h
    cases hr : parseR l i d with
    | bad j' c' => rw [hr] at h; injection h with _ h2; subst h2; exact parse_code hr
    | ok e n =>
      rw [hr] at h
      simp only at h
      split at h
      · exact ih _ _ _ _ h
      · split at h
        · cases h
        · injection h with _ h; exact .inl h.symm
theorem list_code {l : TL} {i d j : Nat} {c : Int} (h : listR l i d = .bad j c) : c = 7 ∨ c = 8 := by
  unfold listR at h
  split at h
  · split at h
    · cases h
    · exact lst_code _ _ _ _ _ h
  · injection h with _ h; exact .inl h.symm
end Go.Proofs.YtipepljmfgjbpaaGreatDoor.E6
