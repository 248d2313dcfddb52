/-
  ShapeDeep: chains of expressions and of statements; numbers of programs: plain facts.
-/
import Derived.Test.YthiilnhiihfknaaDoorSWorks
namespace Go.Proofs.YthiilnhiihfknaaDoor
open Go Go.RowKit

def one1 (n : Int) : Ex := ⟨1, 0, n, [], []⟩
/-- The next expression of the chain. -/
def eN (how : Nat) (i : Nat) (e : Ex) : Ex := if (how >>> (i % 8)) % 3 = 0 then ⟨4, 14, 0, [], [e]⟩ else if (how >>> (i % 8)) % 3 = 1 then ⟨5, 3, 0, [], [e, one1 1]⟩ else ⟨6, 0, 0, [97], [e]⟩
/-- The chain after i rounds: its depth is i + 1. -/
def eD (how : Nat) : Nat → Ex
  | 0 => one1 7
  | i + 1 => eN how (i + 1) (eD how i)
def sN (how : Nat) (i : Nat) (s : St) : St := if (how >>> (i % 8)) % 2 = 1 then ⟨10, 0, [], 0, [], [one1 1], [s], []⟩ else ⟨9, 0, [], 0, [], [one1 1], [], [s]⟩
def sD (how : Nat) : Nat → St
  | 0 => ⟨6, 0, [], 0, [], [one1 1], [], []⟩
  | i + 1 => sN how (i + 1) (sD how i)

theorem dep_one (f : Nat) (n : Int) (h1 : 0 ≤ n) (h2 : n ≤ 9223372036854775807) : dep f (one1 n) = if f = 0 then 0 else 1 := by
  cases f with
  | zero => rfl
  | succ f =>
    have : fitB (one1 n) = true := by simp [fitB, exRow, rowFit, one1, howB, h1, h2]
    simp only [dep, this, if_true]
    rfl
theorem depOf_one (x : Nat) : depOf (if x = 0 then none else some (max 0 x)) = if x = 0 then 0 else x + 1 := by
  split <;> simp [depOf]
theorem dep_eN (how i f : Nat) (e : Ex) : dep (f + 1) (eN how i e) = if dep f e = 0 then 0 else dep f e + 1 := by
  have hn := dep_one f 1 (by omega) (by omega)
  unfold eN
  split
  · have : fitB ⟨4, 14, 0, [], [e]⟩ = true := by simp [fitB, exRow, rowFit, howB]
    simp only [dep, this, if_true, deps, List.foldlM_cons, List.foldlM_nil]
    by_cases h : dep f e = 0 <;> simp [h, depOf]
  · split
    · have : fitB ⟨5, 3, 0, [], [e, one1 1]⟩ = true := by simp [fitB, exRow, rowFit, howB]
      simp only [dep, this, if_true, deps, List.foldlM_cons, List.foldlM_nil]
      by_cases h : dep f e = 0
      · simp [h, depOf]
      · have hf : f ≠ 0 := by rintro rfl; exact h rfl
        rw [if_neg hf] at hn
        simp [h, hn, depOf]
        omega
    · have : fitB ⟨6, 0, 0, [97], [e]⟩ = true := by
        have h97 : nameB [97] = true := by decide
        simp [fitB, exRow, rowFit, howB, h97]
      simp only [dep, this, if_true, deps, List.foldlM_cons, List.foldlM_nil]
      by_cases h : dep f e = 0 <;> simp [h, depOf]
theorem dep_eD (how : Nat) : ∀ (i f : Nat), dep f (eD how i) = if i < f then i + 1 else 0 := by
  intro i
  induction i with
  | zero =>
    intro f
    rw [show eD how 0 = one1 7 from rfl, dep_one f 7 (by omega) (by omega)]
    by_cases h : f = 0
    · simp [h]
    · rw [if_neg h, if_pos (by omega)]
  | succ i ih =>
    intro f
    cases f with
    | zero => rfl
    | succ f =>
      rw [show eD how (i + 1) = eN how (i + 1) (eD how i) from rfl, dep_eN, ih f]
      by_cases h : i < f
      · simp [h]
      · simp [h]
theorem exB_one (n : Int) (h1 : 0 ≤ n) (h2 : n ≤ 9223372036854775807) : exB (one1 n) = true := by
  simp [exB, dep_one 20 n h1 h2]
theorem headB_sD (how i : Nat) : headB (sD how i) = true := by
  have h := exB_one 1 (by omega) (by omega)
  cases i with
  | zero => simp [sD, headB, stRow, rowHead, howB, exsB, h]
  | succ i =>
    show headB (sN how (i + 1) (sD how i)) = true
    unfold sN
    split <;> simp [headB, stRow, rowHead, howB, exsB, h]
theorem vis_nil (F : Nat → St → Bool) (f n : Nat) : vis F f [] n = some n := by cases f <;> rfl
theorem vis_sD (how : Nat) : ∀ (i f n : Nat), n + i < 200 → vis FA f [sD how i] n = if i < f then some (n + i + 1) else none := by
  intro i
  induction i with
  | zero =>
    intro f n hn
    cases f with
    | zero => rfl
    | succ f =>
      have h := headB_sD how 0
      rw [vis_succ, List.foldlM_cons]
      have h' : FA n (sD how 0) = true := h
      unfold visS
      rw [if_neg (by simp [h']; omega)]
      simp [sD, vis_nil]
  | succ i ih =>
    intro f n hn
    cases f with
    | zero => rfl
    | succ f =>
      have h := headB_sD how (i + 1)
      have h1 := ih f (n + 1) (by omega)
      rw [vis_succ, List.foldlM_cons]
      have hb : visS FA f n (sD how (i + 1)) = vis FA f [sD how i] (n + 1) := by
        unfold visS
        rw [if_neg (by simp [FA, h]; omega)]
        show (vis FA f (sN how (i + 1) (sD how i)).body (n + 1)).bind (fun m => vis FA f (sN how (i + 1) (sD how i)).els m) = _
        unfold sN
        split
        · simp [vis_nil]
        · simp [vis_nil]
      rw [hb, h1]
      by_cases hi : i < f
      · simp [hi]; omega
      · simp [hi]
theorem rightL_sD (how i : Nat) (h : i < 199) : rightL [sD how i] = decide (i < 20) := by
  unfold rightL
  have := vis_sD how i 20 0 (by omega)
  rw [show (fun (_ : Nat) s => headB s) = FA from rfl, this]
  by_cases hi : i < 20 <;> simp [hi]
end Go.Proofs.YthiilnhiihfknaaDoor
