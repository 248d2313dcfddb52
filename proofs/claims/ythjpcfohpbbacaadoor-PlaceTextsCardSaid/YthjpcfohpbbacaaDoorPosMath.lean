/-
  The place behind a text's first bytes, byte by byte. No program is named here.
-/
import Derived.Test.YthjpcfohpbbacaaDoorCount
import Derived.Test.YthjpcfohpbbacaaDoorMath
namespace Go.Proofs.YthjpcfohpbbacaaDoor
open Go

def posStep (p : Int × Int) (c : UInt8) : Int × Int := if c = 10 then (p.1 + 1, 1) else (p.1, p.2 + 1)
def pos (l : Bytes) : Int × Int := l.foldl posStep (1, 1)

theorem pos_free (l : Bytes) : ∀ p : Int × Int, (10 : UInt8) ∉ l → l.foldl posStep p = (p.1, p.2 + (l.length : Nat)) := by
  induction l with
  | nil => intro p _; simp
  | cons c l ih =>
    intro p h
    simp only [List.mem_cons, not_or] at h
    rw [List.foldl_cons, ih _ h.2]
    unfold posStep
    rw [if_neg (fun e => h.1 e.symm)]
    simp; omega
theorem pos_line (l : Bytes) : ∀ p : Int × Int, (l.foldl posStep p).1 = p.1 + (l.count 10 : Nat) := by
  induction l with
  | nil => intro p; simp
  | cons c l ih =>
    intro p
    rw [List.foldl_cons, ih]
    unfold posStep
    by_cases h : c = 10
    · rw [if_pos h, h, List.count_cons_self]; simp; omega
    · rw [if_neg h, List.count_cons_of_ne h]
theorem pos_ahead (p : Bytes) (h : p = [] ∨ ∃ p', p = p' ++ [10]) : pos p = ((1 : Int) + ((p.count 10 : Nat) : Int), (1 : Int)) := by
  rcases h with rfl | ⟨p', rfl⟩
  · rfl
  · have h1 := pos_line (p' ++ [10]) (1, 1)
    have h2 : (pos (p' ++ [10])).2 = 1 := by unfold pos; rw [List.foldl_append]; rfl
    exact Prod.ext h1 h2
theorem pos_snoc {s : Bytes} {k : Nat} (h : k < s.length) : pos (s.take (k + 1)) = if s[k] = 10 then ((pos (s.take k)).1 + 1, 1) else ((pos (s.take k)).1, (pos (s.take k)).2 + 1) := by
  rw [List.take_succ_eq_append_getElem h]
  unfold pos
  rw [List.foldl_append]
  rfl
theorem pos_bounds (s : Bytes) (k : Nat) : 1 ≤ (pos (s.take k)).1 ∧ (pos (s.take k)).1 ≤ 1 + k ∧ 1 ≤ (pos (s.take k)).2 ∧ (pos (s.take k)).2 ≤ 1 + k := by
  induction k with
  | zero => simp [pos]
  | succ k ih =>
    by_cases h : k < s.length
    · rw [pos_snoc h]
      split
      · simp; omega
      · simp; omega
    · rw [List.take_of_length_le (by omega)] at ih ⊢
      omega

theorem pos_row (s : Bytes) (r : Row) (k : Nat) (hr : r ∈ rowsOf s) (h1 : r.start ≤ k) (h2 : k ≤ r.start + r.text.length) : pos (s.take k) = ((r.num : Int), (k : Int) - r.start + 1) := by
  obtain ⟨p, q, hp⟩ := row_stands s r hr
  have e : s.take k = p ++ r.text.take (k - r.start) := by
    obtain ⟨d, hd⟩ : ∃ d, k = p.length + d := ⟨k - r.start, by have := hp.start; omega⟩
    have hd2 : k - r.start = d := by have := hp.start; omega
    have hd3 : d ≤ r.text.length := by omega
    have := congrArg (List.take (p.length + d)) hp.parts
    rw [hd2, hd, this, List.append_assoc, List.take_length_add_append, List.take_append, Nat.sub_eq_zero_of_le hd3]
    simp
  rw [e]
  unfold pos
  rw [List.foldl_append]
  have ha := pos_ahead p hp.ahead
  unfold pos at ha
  rw [ha, pos_free _ _ (fun h => hp.free (List.mem_of_mem_take h))]
  have hn := hp.num
  have hl : (r.text.take (k - r.start)).length = k - r.start := by rw [List.length_take]; omega
  rw [hl]
  refine Prod.ext ?_ ?_
  · simp; omega
  · simp; omega
theorem placeOf_pos (s : Bytes) (k : Nat) (h : k ≤ s.length) : placeOf s k = some (pos (s.take k)) := by
  obtain ⟨r, hr, hm, ha, hb⟩ := ofRow_some s k (by omega) (by omega)
  unfold placeOf
  rw [if_neg (by omega), hr, pos_row s r k hm (by omega) (by omega)]
  rfl
theorem placeOf_out (s : Bytes) (k : Int) (h : k < 0 ∨ (s.length : Int) < k) : placeOf s k = none := by
  unfold placeOf
  rcases h with h | h
  · rw [if_pos h]
  · rw [if_neg (by omega), ofRow_none s k h]; rfl
theorem placeOffset_of (s : Bytes) (k : Nat) (L C : Int) (h : k ≤ s.length) (hp : pos (s.take k) = (L, C)) : placeOffset s L C = some (k : Int) := by
  obtain ⟨r, _, hm, ha, hb⟩ := ofRow_some s k (by omega) (by omega)
  have h1 := pos_row s r k hm (by omega) (by omega)
  rw [hp] at h1
  obtain ⟨rfl, rfl⟩ := Prod.mk.inj h1
  unfold placeOffset
  rw [rowAt_of s r hm]
  simp only
  rw [if_neg (by omega)]
  congr 1
  omega
theorem placeOffset_none (s : Bytes) (L C : Int) (h : ∀ k, k ≤ s.length → pos (s.take k) ≠ (L, C)) : placeOffset s L C = none := by
  unfold placeOffset
  cases hr : rowAt s L with
  | none => rfl
  | some r =>
    simp only
    split
    · rfl
    · rename_i hc
      exfalso
      obtain ⟨hm, hn⟩ := rowAt_mem s L r hr
      obtain ⟨j, hj⟩ := List.getElem?_of_mem hm
      have he := rowsOf_end hj
      obtain ⟨d, hd⟩ := Int.eq_ofNat_of_zero_le (show 0 ≤ C - 1 by omega)
      refine h (r.start + d) (by omega) ?_
      rw [pos_row s r (r.start + d) hm (by omega) (by omega)]
      refine Prod.ext ?_ ?_
      · simpa using hn
      · simp; omega

theorem lines_feed (p : Bytes) : lines (p ++ [10]) = lines p ++ [[]] := by
  induction p with
  | nil => rfl
  | cons b r ih =>
    rw [List.cons_append, lines, lines, ih]
    by_cases h : b = 10
    · rw [if_pos h, if_pos h, List.cons_append]
    · rw [if_neg h, if_neg h]
      cases h2 : lines r with
      | nil => exact absurd h2 (lines_ne r)
      | cons y t => rfl
theorem lines_byte (p : Bytes) (c : UInt8) (hc : c ≠ 10) : ∃ i l, lines p = i ++ [l] ∧ lines (p ++ [c]) = i ++ [l ++ [c]] := by
  induction p with
  | nil => exact ⟨[], [], rfl, by simp [lines, hc]⟩
  | cons b r ih =>
    obtain ⟨i, l, h1, h2⟩ := ih
    rw [List.cons_append, lines, lines, h1, h2]
    by_cases h : b = 10
    · exact ⟨[] :: i, l, by rw [if_pos h]; rfl, by rw [if_pos h]; rfl⟩
    · rw [if_neg h, if_neg h]
      cases i with
      | nil => exact ⟨[], b :: l, rfl, rfl⟩
      | cons y t => exact ⟨(b :: y) :: t, l, rfl, rfl⟩
end Go.Proofs.YthjpcfohpbbacaaDoor
