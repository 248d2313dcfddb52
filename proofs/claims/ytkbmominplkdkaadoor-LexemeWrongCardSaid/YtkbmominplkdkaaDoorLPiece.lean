/-
  PIECES: tokens by numbers, and what stands in front of them. No program is named here.
-/
import Derived.Test.YtkbmominplkdkaaDoorLItems
import Derived.Lib.ItoaLen
namespace Go.Proofs.YtkbmominplkdkaaDoor
open Go

structure Pc where
  k : Nat
  n : Nat
  g : Nat
  b : Nat
def OkPc (p : Pc) : Prop := p.k < 256 ∧ p.n < 256 ∧ p.g < 256 ∧ p.b < 18446744073709551616
def gapsL : List Bytes := [[32], [10], [9, 13, 32], [32, 47, 47, 32, 120, 32, 34, 32, 47, 47, 32, 36, 32, 255, 10], [32, 47, 47, 10, 47, 47, 10, 32], [32, 32, 10]]
def gapP (p : Pc) : Bytes := gapsL.getD (p.g % 6) []
def alph : Bytes := [97, 90, 95, 48, 57]
/-- n, and so many letters behind it, by a number's bits. -/
def nameP (b : Nat) : Nat → Bytes
  | 0 => [110]
  | i + 1 => nameP b i ++ [alph.getD (b / 2 ^ i % 5) 0]
def tokP (p : Pc) : Int × Bytes :=
  if p.k % 4 = 0 then (if kwB (nameP p.b (p.n % 16)) then 3 else 1, nameP p.b (p.n % 16))
  else if p.k % 4 = 1 then (2, Lib.decDigits (p.b / 2))
  else if p.k % 4 = 2 then (3, kwsL.getD (p.n % 15) [])
  else (4, sgL.getD (p.n % 23) [])
theorem six {P : Nat → Prop} (h0 : P 0) (h1 : P 1) (h2 : P 2) (h3 : P 3) (h4 : P 4) (h5 : P 5) (n : Nat) (h : n < 6) : P n := by
  rcases (show n = 0 ∨ n = 1 ∨ n = 2 ∨ n = 3 ∨ n = 4 ∨ n = 5 from by omega) with rfl | rfl | rfl | rfl | rfl | rfl <;> assumption
theorem gap_ok (p : Pc) : GapOk (gapP p) := by
  unfold gapP
  refine six (P := fun n => GapOk (gapsL.getD n [])) ?_ ?_ ?_ ?_ ?_ ?_ (p.g % 6) (by omega) <;>
    (intro x; simp [gapsL, skN, whi, whiI]; try omega)
theorem gap_sep (p : Pc) : SepG (gapP p) := by
  unfold gapP
  refine six (P := fun n => SepG (gapsL.getD n [])) ?_ ?_ ?_ ?_ ?_ ?_ (p.g % 6) (by omega) <;>
    exact ⟨_, _, rfl, by decide⟩
theorem gap_len (p : Pc) : (gapP p).length ≤ 15 := by
  unfold gapP
  exact six (P := fun n => (gapsL.getD n []).length ≤ 15) (by decide) (by decide) (by decide) (by decide) (by decide) (by decide) (p.g % 6) (by omega)
theorem nameP_len (b : Nat) : ∀ i, (nameP b i).length = i + 1 := by
  intro i
  induction i with
  | zero => rfl
  | succ i ih => rw [nameP, List.length_append, ih]; rfl
theorem alph_ok : ∀ k < 5, okC (alph.getD k 0) = true := by decide +kernel
theorem nameP_all (b : Nat) : ∀ i, (nameP b i).all okC = true := by
  intro i
  induction i with
  | zero => show ([110] : Bytes).all okC = true; decide +kernel
  | succ i ih => rw [nameP, List.all_append, ih, List.all_cons, alph_ok _ (Nat.mod_lt _ (by decide))]; rfl
theorem nameP_cons (b : Nat) : ∀ i, ∃ r, nameP b i = 110 :: r := by
  intro i
  induction i with
  | zero => exact ⟨[], rfl⟩
  | succ i ih => obtain ⟨r, h⟩ := ih; exact ⟨r ++ [alph.getD (b / 2 ^ i % 5) 0], by rw [nameP, h]; rfl⟩
theorem kws_toks : ∀ x ∈ kwsL, tok x = (3, x) := by decide +kernel
theorem getD_mem {l : List Bytes} {n : Nat} (h : n < l.length) : l.getD n [] ∈ l := by
  rw [List.getD_eq_getElem?_getD, List.getElem?_eq_getElem h]
  exact List.getElem_mem h
theorem tokP_is {p : Pc} (hp : OkPc p) : IsTok (tokP p).1 (tokP p).2 := by
  unfold tokP
  obtain ⟨_, _, _, hb⟩ := hp
  split
  · have hall := nameP_all p.b (p.n % 16)
    have hlen := nameP_len p.b (p.n % 16)
    obtain ⟨r, hr⟩ := nameP_cons p.b (p.n % 16)
    have hn : nameB (nameP p.b (p.n % 16)) = true := by
      rw [hr] at hlen ⊢
      simp at hlen
      simp only [nameB, Bool.and_eq_true, decide_eq_true_eq]
      exact ⟨by decide, by omega⟩
    have ht := tok_ok _ hall (by rw [hr]; simp)
    rw [hn] at ht
    cases hk : kwB (nameP p.b (p.n % 16)) with
    | true => rw [hk] at ht; exact ⟨ht, by simp⟩
    | false => rw [hk] at ht; exact ⟨ht, by simp⟩
  · split
    · have hd := decDigits_dig (p.b / 2)
      have hall : (Lib.decDigits (p.b / 2)).all okC = true := by
        rw [List.all_eq_true]
        intro c hc
        exact okC_dig ((dig_iff c).2 (hd c hc))
      have hne := decDigits_ne (p.b / 2)
      have hnum := numB_dec (p.b / 2) (by omega)
      have ht := tok_ok _ hall hne
      cases hq : Lib.decDigits (p.b / 2) with
      | nil => exact absurd hq hne
      | cons c r =>
        rw [hq] at ht hnum hd
        have hc : dig c = true := (dig_iff c).2 (hd c (by simp))
        have hl : lett c = false := by
          rw [← Bool.not_eq_true]; intro h; rw [lett_dig h] at hc; cases hc
        have hk : kwB (c :: r) = false := by
          rw [← Bool.not_eq_true]; intro hk; rw [kwB_lett hk] at hl; cases hl
        have hn : nameB (c :: r) = false := by simp [nameB, hl]
        rw [hk, hn, hnum] at ht
        exact ⟨ht, by simp⟩
    · split
      · exact ⟨kws_toks _ (getD_mem (show p.n % 15 < 15 by omega)), by simp⟩
      · exact ⟨sg_toks _ (getD_mem (show p.n % 23 < 23 by omega)), by simp⟩
theorem dec_len20 (u : Nat) (h : u < 18446744073709551616) : (Lib.decDigits u).length ≤ 20 := by
  rw [Lib.decDigits_length]; exact Lib.nDigits_le20 u h
theorem tokP_len {p : Pc} (hp : OkPc p) : (tokP p).2.length ≤ 20 := by
  unfold tokP
  obtain ⟨_, _, _, hb⟩ := hp
  split
  · simp only [nameP_len]; omega
  · split
    · exact dec_len20 _ (by omega)
    · split
      · have := kws_len _ (getD_mem (l := kwsL) (show p.n % 15 < kwsL.length from (show p.n % 15 < 15 by omega))); simp only; omega
      · have : ∀ x ∈ sgL, x.length ≤ 2 := by decide +kernel
        have := this _ (getD_mem (l := sgL) (show p.n % 23 < sgL.length from (show p.n % 23 < 23 by omega))); simp only; omega
/-- The items of pieces. -/
def pits (l : List Pc) : List It := l.map fun p => ⟨gapP p, (tokP p).1, (tokP p).2⟩
theorem pits_ok {l : List Pc} (h : ∀ p ∈ l, OkPc p) : ∀ i ∈ pits l, GapOk i.g ∧ IsTok i.k i.t := by
  intro i hi
  obtain ⟨p, hp, rfl⟩ := List.mem_map.1 hi
  exact ⟨gap_ok p, tokP_is (h p hp)⟩
theorem pits_sep (l : List Pc) : ∀ i ∈ (pits l).tail, SepG i.g := by
  intro i hi
  obtain ⟨p, hp, rfl⟩ := List.mem_map.1 (List.mem_of_mem_tail hi)
  exact gap_sep p
def lastsL : List Bytes := [[], [32], [10], [32, 47, 47], [32, 47, 47, 32, 101, 110, 100]]
theorem lasts_ok : ∀ x ∈ lastsL, sepB x = true ∧ skN false x = x.length := by decide +kernel
theorem scan_pieces {l : List Pc} (h : ∀ p ∈ l, OkPc p) {x : Bytes} (hx : x ∈ lastsL) : scan (tx (pits l) x) = (wt 0 (pits l), none) :=
  scan_back (pits_ok h) (pits_sep l) (lasts_ok x hx).1 (lasts_ok x hx).2
theorem tx_len {l : List Pc} (h : ∀ p ∈ l, OkPc p) : (tx (pits l) []).length ≤ 35 * l.length := by
  induction l with
  | nil => simp [pits, tx]
  | cons p l ih =>
    have h1 := gap_len p
    have h2 := tokP_len (h p (by simp))
    have h3 := ih fun q hq => h q (by simp [hq])
    simp only [pits, List.map_cons, tx, List.length_append, List.length_cons] at h3 ⊢
    omega
/-! ### what begins no token -/
def badsL : List Bytes := [[36], [0], [38], [124], [34], [39], [95], [48, 48], [48, 49], [49, 97], [49, 95], [57, 50, 50, 51, 51, 55, 50, 48, 51, 54, 56, 53, 52, 55, 55, 53, 56, 48, 56], [49, 48, 48, 48, 48, 48, 48, 48, 48, 48, 48, 48, 48, 48, 48, 48, 48, 48, 48, 48], [97, 98, 99, 100, 101, 102, 103, 104, 105, 106, 107, 108, 109, 110, 111, 112, 113], [255], [46], [58], [35], [64], [126]]
end Go.Proofs.YtkbmominplkdkaaDoor
