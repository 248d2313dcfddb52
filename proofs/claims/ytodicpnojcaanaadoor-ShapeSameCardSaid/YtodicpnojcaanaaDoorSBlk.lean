/-
  Rows of elements of several cells in one block of the call's own: read, written, cloned.
-/
import Derived.Test.YtodicpnojcaanaaDoorSVis
import Derived.OwnWalk
namespace Go.Proofs.YtodicpnojcaanaaDoor
open Go Go.RowKit

structure RowAt (w : World) (g : Nat) (T : TypeId) (sz cap : Nat) (rows : List (List Value)) : Prop where
  ex : ∃ cs : Array Value, w.heap[g]? = some (.cells cs T (0, 0)) ∧ cs.size = cap * sz ∧ rows.length ≤ cap ∧ (∀ r ∈ rows, r.length = sz) ∧ ∀ i r j u, rows[i]? = some r → r[j]? = some u → cs[i * sz + j]? = some u
section
variable {w w' : World} {g : Nat} {T : TypeId} {sz cap : Nat} {rows : List (List Value)}
theorem RowAt.lt (h : RowAt w g T sz cap rows) : g < w.heap.size := by obtain ⟨cs, h, _⟩ := h.ex; exact lt_of_block h
theorem RowAt.cell (h : RowAt w g T sz cap rows) {i j : Nat} {r : List Value} {u : Value} (hr : rows[i]? = some r) (hj : r[j]? = some u) : w.cell? ⟨g, i * sz + j, none⟩ = some u := by
  obtain ⟨cs, h, _, _, _, hc⟩ := h.ex
  rw [cell_of_row w g (i * sz + j) cs T (0, 0) h]
  exact hc i r j u hr hj
theorem RowAt.free (h : RowAt w g T sz cap rows) (i : Nat) : w.frozen? ⟨g, i, none⟩ = false := by
  obtain ⟨cs, h, _⟩ := h.ex
  simp [World.frozen?, h]
theorem RowAt.keep (h : RowAt w g T sz cap rows) (hb : w'.heap[g]? = w.heap[g]?) : RowAt w' g T sz cap rows := by
  obtain ⟨cs, h, hh⟩ := h.ex
  exact ⟨cs, hb.trans h, hh⟩
theorem RowAt.fr (h : RowAt w g T sz cap rows) {N S : Nat} (hf : Fr N S w w') (h1 : g ≠ N) (h2 : g ≠ S) : RowAt w' g T sz cap rows := h.keep (hf.block g h.lt h1 h2)
theorem RowAt.bel (h : RowAt w g T sz cap rows) {M : Nat} (hb : Below M w w') (hg : g < M) : RowAt w' g T sz cap rows := h.keep (hb.block g hg)
theorem idx_ne {i j a b sz : Nat} (ha : a < sz) (hb : b < sz) (h : i * sz + a = j * sz + b) : i = j ∧ a = b := by
  have hsz : 0 < sz := by omega
  have h1 : (i * sz + a) / sz = (j * sz + b) / sz := by rw [h]
  rw [Nat.mul_comm i, Nat.mul_comm j, Nat.mul_add_div hsz, Nat.mul_add_div hsz, Nat.div_eq_of_lt ha, Nat.div_eq_of_lt hb] at h1
  have h2 : i = j := by omega
  subst h2
  exact ⟨rfl, by omega⟩
theorem RowAt.set1 (h : RowAt w g T sz cap rows) {i j : Nat} {r : List Value} (hr : rows[i]? = some r) (hj : j < sz) (u : Value) : RowAt (w.setCell ⟨g, i * sz + j, none⟩ u) g T sz cap (rows.set i (r.set j u)) := by
  obtain ⟨cs, hh, hs, hl, hlen, hc⟩ := h.ex
  have hi : i < rows.length := (List.getElem?_eq_some_iff.1 hr).1
  have hrl : r.length = sz := hlen r (List.mem_of_getElem? hr)
  have hin : i * sz + j < cs.size := by
    rw [hs]
    have : (i + 1) * sz ≤ cap * sz := Nat.mul_le_mul_right _ (by omega)
    rw [Nat.add_mul] at this
    omega
  refine ⟨cs.setIfInBounds (i * sz + j) u, ?_, by simpa using hs, by simpa using hl, ?_, ?_⟩
  · simp [World.setCell, Array.getElem?_modify, hh]
  · intro x hx
    rcases List.mem_or_eq_of_mem_set hx with hx | rfl
    · exact hlen x hx
    · simpa using hrl
  · intro i' r' j' u' hr' hj'
    by_cases hii : i' = i
    · subst hii
      rw [List.getElem?_set_self hi] at hr'
      cases hr'
      by_cases hjj : j' = j
      · subst hjj
        rw [List.getElem?_set_self (by omega)] at hj'
        cases hj'
        rw [Array.getElem?_setIfInBounds_self_of_lt hin]
      · rw [List.getElem?_set_ne (by omega)] at hj'
        rw [Array.getElem?_setIfInBounds_ne (by omega)]
        exact hc i' r j' u' hr hj'
    · rw [List.getElem?_set_ne (by omega)] at hr'
      have hr'l : r'.length = sz := hlen r' (List.mem_of_getElem? hr')
      have hj2 : j' < sz := by rw [← hr'l]; exact (List.getElem?_eq_some_iff.1 hj').1
      rw [Array.getElem?_setIfInBounds_ne (fun e => hii ((idx_ne hj hj2 e).1).symm)]
      exact hc i' r' j' u' hr' hj'
theorem set_get {α : Type} {l : List α} {i : Nat} {x y : α} (h : l[i]? = some x) : (l.set i y)[i]? = some y := List.getElem?_set_self (List.getElem?_eq_some_iff.1 h).1
theorem RowAt.set5 (h : RowAt w g T 5 cap rows) {i : Nat} {r : List Value} (hr : rows[i]? = some r) (u0 u1 u2 u3 u4 : Value) :
    RowAt (((((w.setCell ⟨g, i * 5, none⟩ u0).setCell ⟨g, i * 5 + 1, none⟩ u1).setCell ⟨g, i * 5 + 2, none⟩ u2).setCell ⟨g, i * 5 + 3, none⟩ u3).setCell ⟨g, i * 5 + 4, none⟩ u4) g T 5 cap (rows.set i [u0, u1, u2, u3, u4]) := by
  have hrl : r.length = 5 := by obtain ⟨cs, _, _, _, hlen, _⟩ := h.ex; exact hlen r (List.mem_of_getElem? hr)
  have h0 := h.set1 (j := 0) hr (by omega) u0
  have h1 := h0.set1 (j := 1) (set_get hr) (by omega) u1
  rw [List.set_set] at h1
  have h2 := h1.set1 (j := 2) (set_get hr) (by omega) u2
  rw [List.set_set] at h2
  have h3 := h2.set1 (j := 3) (set_get hr) (by omega) u3
  rw [List.set_set] at h3
  have h4 := h3.set1 (j := 4) (set_get hr) (by omega) u4
  rw [List.set_set] at h4
  match r, hrl with
  | [_, _, _, _, _], _ => exact h4
theorem RowAt.set8 (h : RowAt w g T 8 cap rows) {i : Nat} {r : List Value} (hr : rows[i]? = some r) (u0 u1 u2 u3 u4 u5 u6 u7 : Value) :
    RowAt ((((((((w.setCell ⟨g, i * 8, none⟩ u0).setCell ⟨g, i * 8 + 1, none⟩ u1).setCell ⟨g, i * 8 + 2, none⟩ u2).setCell ⟨g, i * 8 + 3, none⟩ u3).setCell ⟨g, i * 8 + 4, none⟩ u4).setCell ⟨g, i * 8 + 5, none⟩ u5).setCell ⟨g, i * 8 + 6, none⟩ u6).setCell ⟨g, i * 8 + 7, none⟩ u7) g T 8 cap (rows.set i [u0, u1, u2, u3, u4, u5, u6, u7]) := by
  have hrl : r.length = 8 := by obtain ⟨cs, _, _, _, hlen, _⟩ := h.ex; exact hlen r (List.mem_of_getElem? hr)
  have h0 := h.set1 (j := 0) hr (by omega) u0
  have h1 := h0.set1 (j := 1) (set_get hr) (by omega) u1
  rw [List.set_set] at h1
  have h2 := h1.set1 (j := 2) (set_get hr) (by omega) u2
  rw [List.set_set] at h2
  have h3 := h2.set1 (j := 3) (set_get hr) (by omega) u3
  rw [List.set_set] at h3
  have h4 := h3.set1 (j := 4) (set_get hr) (by omega) u4
  rw [List.set_set] at h4
  have h5 := h4.set1 (j := 5) (set_get hr) (by omega) u5
  rw [List.set_set] at h5
  have h6 := h5.set1 (j := 6) (set_get hr) (by omega) u6
  rw [List.set_set] at h6
  have h7 := h6.set1 (j := 7) (set_get hr) (by omega) u7
  rw [List.set_set] at h7
  match r, hrl with
  | [_, _, _, _, _, _, _, _], _ => exact h7
end

theorem flat_get {rows : List (List Value)} {sz : Nat} (h : ∀ r ∈ rows, r.length = sz) : ∀ (i j : Nat), j < sz → rows.flatten[i * sz + j]? = (rows[i]?).bind (·[j]?) := by
  induction rows with
  | nil => intro i j _; simp
  | cons r rows ih =>
    intro i j hj
    have hr : r.length = sz := h r (by simp)
    cases i with
    | zero => rw [List.flatten_cons, List.getElem?_append_left (by omega)]; simp
    | succ i =>
      rw [List.flatten_cons, List.getElem?_append_right (by rw [hr, Nat.add_mul]; omega), hr, show (i + 1) * sz + j - sz = i * sz + j by rw [Nat.add_mul]; omega, ih (fun x hx => h x (by simp [hx])) i j hj]
      simp
theorem flat_len {rows : List (List Value)} {sz : Nat} (h : ∀ r ∈ rows, r.length = sz) : rows.flatten.length = rows.length * sz := by
  induction rows with
  | nil => simp
  | cons r rows ih =>
    rw [List.flatten_cons, List.length_append, ih (fun x hx => h x (by simp [hx])), h r (by simp), List.length_cons, Nat.add_mul]
    omega
/-- An owned row as rows of elements. -/
theorem RowAt.of_own {w : World} {base : Nat} {T : TypeId} {sz : Nat} {v : Value} {rows : List (List Value)} (h : w.ownsRow base T sz v rows.length rows.flatten) (hlen : ∀ r ∈ rows, r.length = sz) (h0 : 0 < rows.length) :
    ∃ g cap, v = .slice (some ⟨g, 0, none⟩) rows.length cap ∧ base ≤ g ∧ RowAt w g T sz cap rows := by
  rcases h.2 with ⟨_, h⟩ | ⟨g, cap, cur, hv, hb, hh, hn, _, hs, ht⟩
  · omega
  · refine ⟨g, cap, hv, hb, cur, hh, hs, hn, hlen, fun i r j u hr hj => ?_⟩
    have hj2 : j < sz := by rw [← hlen r (List.mem_of_getElem? hr)]; exact (List.getElem?_eq_some_iff.1 hj).1
    have e := flat_get hlen i j hj2
    rw [hr, Option.bind_some, hj, ← ht, List.getElem?_take] at e
    split at e
    · simpa using e
    · cases e
end Go.Proofs.YtodicpnojcaanaaDoor
