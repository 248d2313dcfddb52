/-
  Operators without parentheses: the last one of the least rank is applied last. No program is named here.
-/
import Derived.Test.YtoldhocdfkndbaaGreatDoorETree
namespace Go.Proofs.YtoldhocdfkndbaaGreatDoor.E5
open Go Go.Proofs.YtoldhocdfkndbaaGreatDoor

def lastMin (r : Nat → Int) (j : Nat) : Nat → Nat
  | 0 => j
  | n + 1 => if r (j + n + 1) ≤ r (lastMin r j n) then j + n + 1 else lastMin r j n
theorem lastMin_in (r : Nat → Int) (j n : Nat) : j ≤ lastMin r j n ∧ lastMin r j n ≤ j + n := by
  induction n with
  | zero => exact ⟨Nat.le_refl _, Nat.le_refl _⟩
  | succ n ih => rw [lastMin]; split <;> omega
theorem lastMin_is (r : Nat → Int) (j n : Nat) : (∀ q, j ≤ q → q < lastMin r j n → r (lastMin r j n) ≤ r q) ∧ (∀ q, lastMin r j n < q → q ≤ j + n → r (lastMin r j n) < r q) := by
  induction n with
  | zero => exact ⟨fun q h1 h2 => by simp only [lastMin] at h2; omega, fun q h1 h2 => by simp only [lastMin] at h1; omega⟩
  | succ n ih =>
    have hin := lastMin_in r j n
    rw [lastMin]
    split
    · rename_i h
      refine ⟨fun q h1 h2 => ?_, fun q h1 h2 => by omega⟩
      rcases Nat.lt_trichotomy q (lastMin r j n) with h3 | h3 | h3
      · have := ih.1 q h1 h3; omega
      · rw [h3]; exact h
      · have := ih.2 q h3 (by omega); omega
    · rename_i h
      refine ⟨fun q h1 h2 => ih.1 q h1 h2, fun q h1 h2 => ?_⟩
      rcases Nat.lt_or_ge q (j + n + 1) with h3 | h3
      · exact ih.2 q h1 (by omega)
      · obtain rfl : q = j + n + 1 := by omega
        omega
theorem lastMin_eq {r : Nat → Int} {j n a : Nat} (h1 : j ≤ a) (h2 : a ≤ j + n) (h3 : ∀ q, j ≤ q → q < a → r a ≤ r q) (h4 : ∀ q, a < q → q ≤ j + n → r a < r q) : lastMin r j n = a := by
  have hin := lastMin_in r j n
  obtain ⟨i1, i2⟩ := lastMin_is r j n
  rcases Nat.lt_trichotomy (lastMin r j n) a with h | h | h
  · have := i2 a h h2
    have := h3 _ hin.1 h
    omega
  · exact h
  · have := i1 a h1 h
    have := h4 _ h hin.2
    omega
/-- The expression of n operators from j on. -/
def treeR (x : Nat → Bytes) (o r : Nat → Int) (j : Nat) : Nat → Ex
  | 0 => vE (x j)
  | n + 1 => pE (o (lastMin r j n)) (treeR x o r j (lastMin r j n - j)) (treeR x o r (lastMin r j n + 1) (j + n - lastMin r j n))
termination_by n => n
decreasing_by
  all_goals
    have := lastMin_in r j n
    omega
theorem treeR_zero (x : Nat → Bytes) (o r : Nat → Int) (j : Nat) : treeR x o r j 0 = vE (x j) := by rw [treeR]
theorem treeR_split {x : Nat → Bytes} {o r : Nat → Int} {j a n : Nat} (h : lastMin r j n = a) : treeR x o r j (n + 1) = pE (o a) (treeR x o r j (a - j)) (treeR x o r (a + 1) (j + n - a)) := by rw [treeR, h]
theorem treeR_gd {x : Nat → Bytes} {o r : Nat → Int} {k : Nat} (hx : ∀ j, j ≤ k → S3.nameB (x j) = true) (ho : ∀ j, j < k → 1 ≤ o j ∧ o j ≤ 13) (n : Nat) : ∀ j, j + n ≤ k → Gd (n + 1) (treeR x o r j n) := by
  induction n using Nat.strongRecOn with
  | _ n ih =>
    intro j hj
    cases n with
    | zero => rw [treeR_zero]; exact gd_leaf (fit_var (hx j (by omega))) rfl
    | succ n =>
      have hin := lastMin_in r j n
      rw [treeR_split rfl]
      have h1 := ih (lastMin r j n - j) (by omega) j (by omega)
      have h2 := ih (j + n - lastMin r j n) (by omega) (lastMin r j n + 1) (by omega)
      exact (gd_two (fit_bin (ho _ (by omega)) _ _) rfl h1 h2).mono (by omega)

structure Flat (l : TL) (x : Nat → Bytes) (o r : Nat → Int) (k : Nat) : Prop where
  len : l.length = 2 * k + 1
  nm : ∀ j, j ≤ k → tkAt l (2 * j) = (1, x j) ∧ S3.nameB (x j) = true
  sg : ∀ j, j < k → sgAt l (2 * j + 1) = signB (o j) ∧ (1 ≤ o j ∧ o j ≤ 13)
  rk : ∀ j, j < k → r j = (opB (signB (o j))).2
  le : k ≤ 19
theorem Flat.end_ {l : TL} {x : Nat → Bytes} {o r : Nat → Int} {k : Nat} (h : Flat l x o r k) : sgAt l (2 * k + 1) = [] := by
  unfold sgAt tkAt
  rw [List.getElem?_eq_none (by rw [h.len]; omega)]; rfl
theorem Flat.not_br {l : TL} {x : Nat → Bytes} {o r : Nat → Int} {k : Nat} (h : Flat l x o r k) (j : Nat) (hj : j ≤ k) : sgAt l (2 * j + 1) ≠ [91] := by
  rcases Nat.lt_or_ge j k with h1 | h1
  · rw [(h.sg j h1).1]
    intro e
    have := (signB_bin (h.sg j h1).2).2.1
    rw [e] at this
    exact absurd this (by decide)
  · obtain rfl : j = k := by omega
    rw [h.end_]; decide
/-- The first operator from j on whose rank is less than m; k if there is none. -/
structure IsE (r : Nat → Int) (k : Nat) (m : Int) (j e : Nat) : Prop where
  a : j ≤ e
  b : e ≤ k
  c : ∀ i, j ≤ i → i < e → m ≤ r i
  d : e < k → r e < m
theorem isE_ex (r : Nat → Int) (k : Nat) (m : Int) (n : Nat) : ∀ j, j + n = k → ∃ e, IsE r k m j e := by
  induction n with
  | zero => intro j hj; exact ⟨j, by omega, by omega, fun i h1 h2 => by omega, fun h => by omega⟩
  | succ n ih =>
    intro j hj
    by_cases hm : r j < m
    · exact ⟨j, by omega, by omega, fun i h1 h2 => by omega, fun _ => hm⟩
    · obtain ⟨e, h1, h2, h3, h4⟩ := ih (j + 1) (by omega)
      refine ⟨e, by omega, h2, fun i h5 h6 => ?_, h4⟩
      rcases Nat.lt_or_ge j i with h7 | h7
      · exact h3 i (by omega) h6
      · obtain rfl : i = j := by omega
        omega
theorem flat_parse {l : TL} {x : Nat → Bytes} {o r : Nat → Int} {k : Nat} (h : Flat l x o r k) (d : Nat) (n : Nat) :
    (∀ j m e, k - j ≤ n → 1 ≤ m → IsE r k m j e → binR l (2 * j) d m = .ok (treeR x o r j (e - j)) (2 * e + 1)) ∧
    (∀ i j m e, k - i ≤ n → j ≤ i → 1 ≤ m → IsE r k m i e → (∀ q, j ≤ q → q < i → m ≤ r q ∧ (i < k → r i ≤ r q)) → lopR l (treeR x o r j (i - j)) (2 * i + 1) d m = .ok (treeR x o r j (e - j)) (2 * e + 1)) := by
  have hlen := h.len
  have hle := h.le
  induction n using Nat.strongRecOn with
  | _ n ih =>
    have L : ∀ i j m e, k - i ≤ n → j ≤ i → 1 ≤ m → IsE r k m i e → (∀ q, j ≤ q → q < i → m ≤ r q ∧ (i < k → r i ≤ r q)) → lopR l (treeR x o r j (i - j)) (2 * i + 1) d m = .ok (treeR x o r j (e - j)) (2 * e + 1) := by
      intro i j m e hn hji hm he hq
      obtain ⟨e1, e2, e3, e4⟩ := he
      rcases Nat.lt_or_ge i e with hlt | hge
      · have hik : i < k := by omega
        obtain ⟨hs, hop⟩ := h.sg i hik
        have hr := h.rk i hik
        have hmr := e3 i (Nat.le_refl _) hlt
        obtain ⟨q1, q2, q3, q4⟩ := signB_bin hop
        obtain ⟨e', he'⟩ := isE_ex r k (r i + 1) (k - (i + 1)) (i + 1) (by omega)
        obtain ⟨f1, f2, f3, f4⟩ := he'
        have hee : e' ≤ e := by
          rcases Nat.lt_or_ge e e' with h5 | h5
          · have := f3 e (by omega) h5
            have := e4 (by omega)
            omega
          · exact h5
        have hB := (ih (k - (i + 1)) (by omega)).1 (i + 1) (r i + 1) e' (by omega) (by omega) ⟨f1, f2, f3, f4⟩
        have hlast : lastMin r j (e' - j - 1) = i := lastMin_eq hji (by omega) (fun q h1 h2 => (hq q h1 h2).2 hik) (fun q h1 h2 => by have := f3 q (by omega) (by omega); omega)
        have htree : treeR x o r j (e' - j) = pE (o i) (treeR x o r j (i - j)) (treeR x o r (i + 1) (e' - (i + 1))) := by
          have := treeR_split (x := x) (o := o) hlast
          rw [show e' - j - 1 + 1 = e' - j by omega, show j + (e' - j - 1) - i = e' - (i + 1) by omega] at this
          exact this
        have hgd := treeR_gd (x := x) (o := o) (r := r) (fun j hj => (h.nm j hj).2) (fun j hj => (h.sg j hj).2) (e' - j) j (by omega)
        have hL := (ih (k - e') (by omega)).2 e' j m e (by omega) (by omega) hm ⟨hee, e2, fun i' h1 h2 => e3 i' (by omega) h2, e4⟩ (fun q h1 h2 => by
          rcases Nat.lt_trichotomy q i with h6 | h6 | h6
          · have := hq q h1 h6
            refine ⟨this.1, fun h7 => ?_⟩
            have := this.2 hik
            have := f4 h7
            omega
          · subst h6
            exact ⟨hmr, fun h7 => by have := f4 h7; omega⟩
          · have := f3 q (by omega) h2
            exact ⟨by omega, fun h7 => by have := f4 h7; omega⟩)
        rw [lopR_eq l _ _ d m (by omega) hm (by rw [hs]; omega), hs, ← hr, show 2 * i + 1 + 1 = 2 * (i + 1) by omega, hB]
        simp only [Res.bind, madeR]
        rw [show (opB (signB (o i))).1 = o i by rw [q1]]
        rw [htree] at hgd hL
        have hx : S3.exB ⟨5, o i, 0, [], [treeR x o r j (i - j), treeR x o r (i + 1) (e' - (i + 1))]⟩ = true := hgd.exB (by omega)
        rw [if_pos hx]
        simp only
        exact hL
      · obtain rfl : e = i := by omega
        refine lopR_end l _ _ d m ?_
        rcases Nat.lt_or_ge e k with h5 | h5
        · have := e4 h5
          rw [(h.sg e h5).1, ← h.rk e h5]; exact this
        · obtain rfl : e = k := by omega
          rw [h.end_, opB_nil]; simp only; omega
    refine ⟨fun j m e hn hm he => ?_, L⟩
    obtain ⟨e1, e2, e3, e4⟩ := he
    obtain ⟨hnm, hname⟩ := h.nm j (by omega)
    have ho : opdR l (2 * j) d = .ok (treeR x o r j 0) (2 * j + 1) := by
      rw [opdR_name hnm hname d (by omega), if_neg (h.not_br j (by omega)), treeR_zero]; rfl
    rw [binR_eq l _ d m hm (by omega), ho]
    simp only [Res.bind]
    have := L j j m e hn (Nat.le_refl _) hm ⟨e1, e2, e3, e4⟩ (fun q h1 h2 => by omega)
    rwa [Nat.sub_self] at this
theorem flat_all {l : TL} {x : Nat → Bytes} {o r : Nat → Int} {k : Nat} (h : Flat l x o r k) : parseR l 0 0 = .ok (treeR x o r 0 k) (2 * k + 1) := by
  have hr : ∀ j, j < k → 1 ≤ r j := fun j hj => by rw [h.rk j hj]; exact (signB_bin (h.sg j hj).2).2.1
  have := (flat_parse h 0 k).1 0 1 k (by omega) (by omega) ⟨by omega, by omega, fun i _ h2 => hr i h2, fun h => by omega⟩
  exact this
end Go.Proofs.YtoldhocdfkndbaaGreatDoor.E5
