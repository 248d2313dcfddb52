/-
  Lists of tokens in memory; wrong, has: contracts.
-/
import Derived.Test.YtoldhocdfkndbaaGreatDoorLScan
import Derived.BigQuiet
namespace Go.Proofs.YtoldhocdfkndbaaGreatDoor.L4
open Go Go.RowKit Go.Sort

/-- A slice value that reads as these tokens. -/
def Toks (W : World) (v : Value) (l : List Tk) : Prop :=
  (l = [] ∧ ∃ A c, v = .slice A 0 c) ∨
  (l ≠ [] ∧ ∃ b o c, v = .slice (some ⟨b, o, none⟩) l.length c ∧ b < W.heap.size ∧ ∀ (i : Nat) t, l[i]? = some t →
    W.cell? ⟨b, o + i * 3, none⟩ = some (.int .i64 t.k) ∧ W.cell? ⟨b, o + i * 3 + 1, none⟩ = some (.string (B t.t)) ∧ W.cell? ⟨b, o + i * 3 + 2, none⟩ = some (.int .i64 (t.a : Int)))
theorem Toks.below {W W' : World} {v : Value} {l : List Tk} (h : Toks W v l) (hb : Below W.heap.size W W') : Toks W' v l := by
  rcases h with h | ⟨hn, b, o, c, hv, hl, hc⟩
  · exact .inl h
  · refine .inr ⟨hn, b, o, c, hv, Nat.lt_of_lt_of_le hl hb.size, fun i t ht => ?_⟩
    obtain ⟨c0, c1, c2⟩ := hc i t ht
    exact ⟨(hb.cell (p := ⟨b, _, none⟩) hl).trans c0, (hb.cell (p := ⟨b, _, none⟩) hl).trans c1, (hb.cell (p := ⟨b, _, none⟩) hl).trans c2⟩
theorem Toks.slice {W : World} {v : Value} {l : List Tk} (h : Toks W v l) : ∃ A c, v = .slice A l.length c := by
  rcases h with ⟨rfl, A, c, rfl⟩ | ⟨_, b, o, c, rfl, _⟩
  · exact ⟨A, c, rfl⟩
  · exact ⟨_, c, rfl⟩
theorem flatT_get (l : List Tk) : ∀ (i : Nat) (t : Tk) (j : Nat), l[i]? = some t → j < 3 → (flatT l)[i * 3 + j]? = (tkC t)[j]? := by
  induction l with
  | nil => intro i t j h; simp at h
  | cons x l ih =>
    intro i t j h hj
    have e : flatT (x :: l) = tkC x ++ flatT l := rfl
    rw [e]
    have h3 : (tkC x).length = 3 := rfl
    cases i with
    | zero =>
      simp at h; subst h
      rw [Nat.zero_mul, Nat.zero_add, List.getElem?_append_left (by omega)]
    | succ i =>
      rw [List.getElem?_append_right (by omega), h3, show (i + 1) * 3 + j - 3 = i * 3 + j by omega]
      exact ih i t j (by simpa using h) hj
theorem Toks.of_own {W : World} {base : Nat} {T : TypeId} {v : Value} {l : List Tk} (h : W.ownsRow base T 3 v l.length (flatT l)) : Toks W v l := by
  rcases Nat.eq_zero_or_pos l.length with h0 | h0
  · obtain rfl := List.eq_nil_of_length_eq_zero h0
    rcases h.2 with ⟨rfl, _⟩ | ⟨g, cap, cur, rfl, _⟩
    · exact .inl ⟨rfl, _, _, rfl⟩
    · exact .inl ⟨rfl, _, _, rfl⟩
  · rcases h.2 with ⟨_, h1⟩ | ⟨g, cap, cur, rfl, hg, hcell, _⟩
    · omega
    · have hgl : g < W.heap.size := by
        rcases Nat.lt_or_ge g W.heap.size with hlt | hge
        · exact hlt
        · rw [Array.getElem?_eq_none hge] at hcell; cases hcell
      refine .inr ⟨by rintro rfl; simp at h0, g, 0, cap, rfl, hgl, fun i t ht => ?_⟩
      have hi := (List.getElem?_eq_some_iff.1 ht).1
      refine ⟨?_, ?_, ?_⟩
      · rw [Nat.zero_add, h.cellAt (i * 3) (by omega)]; exact (flatT_get l i t 0 ht (by decide))
      · rw [Nat.zero_add, h.cellAt (i * 3 + 1) (by omega)]; exact (flatT_get l i t 1 ht (by decide))
      · rw [Nat.zero_add, h.cellAt (i * 3 + 2) (by omega)]; exact (flatT_get l i t 2 ht (by decide))

end Go.Proofs.YtoldhocdfkndbaaGreatDoor.L4
