/-
  Operators without parentheses, as the law writes them. No program is named here.
-/
import Derived.Test.YtoldhocdfkndbaaGreatDoorERank
import Derived.Test.YtoldhocdfkndbaaGreatDoorEDraft
namespace Go.Proofs.YtoldhocdfkndbaaGreatDoor.E5
open Go Go.Proofs.YtoldhocdfkndbaaGreatDoor Go.Proofs.YtoldhocdfkndbaaGreatDoor.L4

def mN (i : Nat) : List UInt8 := 109 :: Lib.decDigits i
def xR (j : Nat) : List UInt8 := if j = 0 then [110] else mN (j - 1)
def oR (l : List Nat) (j : Nat) : Int := ((1 + l.getD j 0 % 13 : Nat) : Int)
def rR (l : List Nat) (j : Nat) : Int := (opB (signB (oR l j))).2
def rkI (l : List Nat) : Nat → List It
  | 0 => [⟨[], 1, [110]⟩]
  | i + 1 => rkI l i ++ [⟨[32], 4, signB (oR l i)⟩, ⟨[32], 1, mN i⟩]
def rkS (l : List Nat) (i : Nat) : List UInt8 := tx (rkI l i) []
theorem rkS_succ (l : List Nat) (i : Nat) : rkS l (i + 1) = rkS l i ++ ([32] ++ (signB (oR l i) ++ ([32] ++ mN i))) := by
  unfold rkS
  rw [rkI, tx_append, tx_last]
  simp [tx]
theorem oR_in (l : List Nat) (j : Nat) : 1 ≤ oR l j ∧ oR l j ≤ 13 := by unfold oR; omega
theorem rR_in (l : List Nat) (j : Nat) : 1 ≤ rR l j ∧ rR l j ≤ 5 := by
  have := signB_bin (oR_in l j)
  exact ⟨this.2.1, this.2.2.1⟩
theorem mN_ok : ∀ i < 12, S3.nameB (mN i) = true := by decide +kernel
theorem mN_len : ∀ i < 12, (mN i).length ≤ 3 := by decide +kernel
theorem rkI_ok (l : List Nat) (i : Nat) (hi : i ≤ 12) : ∀ t ∈ rkI l i, GapOk t.g ∧ IsTok t.k t.t := by
  induction i with
  | zero =>
    intro t ht
    simp only [rkI, List.mem_singleton] at ht
    subst ht
    exact ⟨gap_nil, tok_name (by decide)⟩
  | succ i ih =>
    intro t ht
    simp only [rkI, List.mem_append, List.mem_cons, List.not_mem_nil, or_false] at ht
    rcases ht with ht | rfl | rfl
    · exact ih (by omega) t ht
    · exact ⟨gap_space, (sign_tok (by have := oR_in l i; omega)).1⟩
    · exact ⟨gap_space, tok_name (mN_ok i (by omega))⟩
theorem rkI_sep (l : List Nat) (i : Nat) : ∃ t r, rkI l i = t :: r ∧ ∀ x ∈ r, SepG x.g := by
  induction i with
  | zero => exact ⟨_, _, rfl, fun x hx => by cases hx⟩
  | succ i ih =>
    obtain ⟨t, r, e, h⟩ := ih
    refine ⟨t, r ++ [⟨[32], 4, signB (oR l i)⟩, ⟨[32], 1, mN i⟩], by rw [rkI, e]; rfl, fun x hx => ?_⟩
    simp only [List.mem_append, List.mem_cons, List.not_mem_nil, or_false] at hx
    rcases hx with hx | rfl | rfl
    · exact h x hx
    · exact ⟨_, _, rfl, by decide⟩
    · exact ⟨_, _, rfl, by decide⟩
theorem wt_its (l : List It) : ∀ o, tlOf (wt o l) = l.map fun t => (t.k, t.t) := by
  induction l with
  | nil => intro o; rfl
  | cons x l ih => intro o; simp only [List.map_cons, wt, tlOf] at *; rw [ih]
theorem rk_tl (l : List Nat) (i : Nat) (hi : i ≤ 12) : tlS (rkS l i) = (rkI l i).map fun t => (t.k, t.t) := by
  have h := scan_back (l := rkI l i) (last := []) (rkI_ok l i hi) (by
    obtain ⟨t, r, e, h⟩ := rkI_sep l i
    rw [e]; exact h) rfl rfl
  unfold tlS rkS
  rw [h]
  exact wt_its _ 0
theorem rkI_len (l : List Nat) (i : Nat) : (rkI l i).length = 2 * i + 1 := by
  induction i with
  | zero => rfl
  | succ i ih => rw [rkI, List.length_append, ih]; rfl
theorem rkI_at (l : List Nat) (i : Nat) : (∀ j, j ≤ i → ∃ g, (rkI l i)[2 * j]? = some ⟨g, 1, xR j⟩) ∧ (∀ j, j < i → ∃ g, (rkI l i)[2 * j + 1]? = some ⟨g, 4, signB (oR l j)⟩) := by
  induction i with
  | zero =>
    refine ⟨fun j hj => ?_, fun j hj => by omega⟩
    obtain rfl : j = 0 := by omega
    exact ⟨[], rfl⟩
  | succ i ih =>
    have hl := rkI_len l i
    refine ⟨fun j hj => ?_, fun j hj => ?_⟩
    · rcases Nat.lt_or_ge j (i + 1) with h | h
      · rw [rkI, List.getElem?_append_left (by omega)]; exact ih.1 j (by omega)
      · obtain rfl : j = i + 1 := by omega
        rw [rkI, List.getElem?_append_right (by omega), hl, show 2 * (i + 1) - (2 * i + 1) = 1 by omega]
        exact ⟨[32], by simp [xR]⟩
    · rcases Nat.lt_or_ge j i with h | h
      · rw [rkI, List.getElem?_append_left (by omega)]; exact ih.2 j h
      · obtain rfl : j = i := by omega
        rw [rkI, List.getElem?_append_right (by omega), hl, show 2 * j + 1 - (2 * j + 1) = 0 by omega]
        exact ⟨[32], rfl⟩
theorem xR_ok {j : Nat} (h : j ≤ 12) : S3.nameB (xR j) = true := by
  unfold xR
  split
  · decide
  · exact mN_ok _ (by omega)
theorem rk_flat (l : List Nat) (k : Nat) (hk : k ≤ 12) : Flat (tlS (rkS l k)) xR (oR l) (rR l) k := by
  rw [rk_tl l k hk]
  obtain ⟨h1, h2⟩ := rkI_at l k
  refine ⟨by simp [rkI_len], fun j hj => ?_, fun j hj => ?_, fun j _ => rfl, by omega⟩
  · obtain ⟨g, e⟩ := h1 j hj
    refine ⟨?_, xR_ok (by omega)⟩
    unfold tkAt
    rw [List.getElem?_map, e]; rfl
  · obtain ⟨g, e⟩ := h2 j hj
    refine ⟨?_, oR_in l j⟩
    unfold sgAt tkAt
    rw [List.getElem?_map, e]; rfl
theorem rk_parse (l : List Nat) (k : Nat) (hk : k ≤ 12) : parseR (tlS (rkS l k)) 0 0 = .ok (treeR xR (oR l) (rR l) 0 k) (2 * k + 1) := flat_all (rk_flat l k hk)
theorem rk_len (l : List Nat) (i : Nat) (hi : i ≤ 12) : (rkS l i).length ≤ 7 * i + 1 := by
  induction i with
  | zero => simp [rkS, rkI, tx]
  | succ i ih =>
    rw [rkS_succ]
    have h1 := sign_len (oR l i)
    have h2 := mN_len i (by omega)
    simp only [List.length_append, List.length_cons, List.length_nil]
    have := ih (by omega)
    omega
end Go.Proofs.YtoldhocdfkndbaaGreatDoor.E5
