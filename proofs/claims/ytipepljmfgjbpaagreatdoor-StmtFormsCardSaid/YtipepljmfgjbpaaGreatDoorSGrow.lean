/-
  A list that grows by append in a block of the call's own: for elements of any kind.
  A list that grows by append of another list.
-/
import Derived.Test.YtipepljmfgjbpaaGreatDoorSMm
import Derived.Deep.AppendLies
namespace Go.Proofs.YtipepljmfgjbpaaGreatDoor.S3
open Go Go.RowKit

abbrev Rn (n m : Nat) : Nat → Prop := fun b => n ≤ b ∧ b < m
structure RowKind (α β : Type) where
  T : TypeId
  sz : Nat
  row : α → β → List Value
  part : World → (Nat → Prop) → α → β → Prop
  len : ∀ a v, (row a v).length = sz
  keep : ∀ {w w' : World} {R R' : Nat → Prop} {a : α} {v : β}, part w R a v → (∀ b, R b → R' b) → (∀ b i, R b → w'.cell? ⟨b, i, none⟩ = w.cell? ⟨b, i, none⟩) → part w' R' a v
section
variable {α β : Type} {K : RowKind α β}
def RowKind.rows (K : RowKind α β) (l : List α) (V : Nat → β) : List (List Value) := l.mapIdx fun i a => K.row a (V i)
theorem RowKind.rows_len (l : List α) (V : Nat → β) : (K.rows l V).length = l.length := by simp [RowKind.rows]
theorem RowKind.rows_sz (l : List α) (V : Nat → β) : ∀ r ∈ K.rows l V, r.length = K.sz := by
  intro r hr
  obtain ⟨i, hi, rfl⟩ := List.getElem_of_mem hr
  simp [RowKind.rows, K.len]
theorem RowKind.rows_snoc (l : List α) (a : α) (V : Nat → β) (x : β) : K.rows (l ++ [a]) (fun j => if j = l.length then x else V j) = K.rows l V ++ [K.row a x] := by
  unfold RowKind.rows
  rw [List.mapIdx_append]
  congr 1
  · apply List.ext_getElem?
    intro j
    rw [List.getElem?_mapIdx, List.getElem?_mapIdx]
    by_cases hj : j < l.length
    · simp [show j ≠ l.length by omega]
    · rw [List.getElem?_eq_none (by omega)]; rfl
  · simp
/-- Blocks from base on that are not the row's own. -/
abbrev Kg (base : Nat) (v : Value) (wr : World) (b : Nat) : Prop := base ≤ b ∧ b < wr.heap.size ∧ v.ownBlock ≠ some b
def GrI (K : RowKind α β) (base : Nat) (l : List α) (v : Value) (wr : World) : Prop :=
  ∃ V : Nat → β, wr.ownsRow base K.T K.sz v l.length (K.rows l V).flatten ∧ (∀ (j : Nat) a, l[j]? = some a → K.part wr (Kg base v wr) a (V j)) ∧ base ≤ wr.heap.size
theorem GrI.start (K : RowKind α β) {base : Nat} {wr : World} (h : base ≤ wr.heap.size) (V : Nat → β) : GrI K base [] (.slice none 0 0) wr :=
  ⟨V, by simpa [RowKind.rows] using World.ownsRow_nil wr base K.T K.sz, fun j a h => by simp at h, h⟩
theorem GrI.keep {base : Nat} {l : List α} {v : Value} {wr w' : World} (h : GrI K base l v wr) (hsz : wr.heap.size ≤ w'.heap.size) (hk : ∀ b, base ≤ b → b < wr.heap.size → w'.heap[b]? = wr.heap[b]?) : GrI K base l v w' := by
  obtain ⟨V, h1, h2, h3⟩ := h
  refine ⟨V, ⟨h1.1, ?_⟩, fun j a hj => K.keep (h2 j a hj) (fun b hb => ⟨hb.1, Nat.lt_of_lt_of_le hb.2.1 hsz, hb.2.2⟩) fun b i hb => World.cell?_of_block (w := wr) (hk b hb.1 hb.2.1), by omega⟩
  rcases h1.2 with h | ⟨g, cap, cur, hv, g1, g2, g3⟩
  · exact .inl h
  · exact .inr ⟨g, cap, cur, hv, g1, (hk g g1 (lt_of_block g2)).trans g2, g3⟩
theorem GrI.fr {base : Nat} {l : List α} {v : Value} {wr w' : World} (h : GrI K base l v wr) {S : Nat} (hS : S < base) (hf : Fr S S wr w') : GrI K base l v w' :=
  h.keep hf.size fun b h1 h2 => hf.block b h2 (by omega) (by omega)
theorem GrI.bel {base : Nat} {l : List α} {v : Value} {wr w' : World} (h : GrI K base l v wr) (hf : Below wr.heap.size wr w') : GrI K base l v w' :=
  h.keep hf.size fun b _ h2 => hf.block b h2
theorem GrI.part {base : Nat} {l : List α} {v : Value} {wr w1 : World} (h : GrI K base l v wr) {a : α} {x : β} (hp : K.part w1 (Rn wr.heap.size w1.heap.size) a x) : K.part w1 (Kg base v w1) a x := by
  obtain ⟨V, h1, _, h3⟩ := h
  refine K.keep hp (fun b hb => ⟨Nat.le_trans h3 hb.1, hb.2, fun e => ?_⟩) fun _ _ _ => rfl
  have := (h1.lt b e).2
  omega
/-- A new element, of new blocks, is put behind: what the law of append asks and leaves. -/
theorem GrI.own {base : Nat} {l : List α} {v : Value} {wr : World} (h : GrI K base l v wr) : ∃ xs, wr.ownsRow base K.T K.sz v l.length xs ∧
    (∀ (a : α) (x : β) (o : Obj) g cap w8, K.part wr (Kg base v wr) a x →
      w8.ownsRow base K.T K.sz (.slice (some ⟨g, 0, none⟩) (l.length + 1) cap) (l.length + 1) (xs ++ K.row a x) → (wr.alloc o).grownBy w8 v.ownBlock → (v.ownBlock = some g ∨ g = (wr.alloc o).heap.size) →
      GrI K base (l ++ [a]) (.slice (some ⟨g, 0, none⟩) (l.length + 1) cap) w8 ∧ Below base wr w8) := by
  obtain ⟨V, h1, h2, h3⟩ := h
  refine ⟨_, h1, fun a x o g cap w8 hN h8 hg hat => ?_⟩
  have hsz8 : wr.heap.size + 1 ≤ w8.heap.size := by have := hg.size; simpa using this
  have hown := h1.lt
  have hgr : Below base wr w8 := (((Below.refl _ _).mono h3).alloc h3 o).grown hg (by simp; omega) fun j hj => (hown j hj).1
  have kk : ∀ b, Kg base v wr b → Kg base (.slice (some ⟨g, 0, none⟩) (l.length + 1) cap) w8 b := by
    rintro b ⟨hb1, hb2, hb3⟩
    refine ⟨hb1, by omega, fun he => ?_⟩
    simp [Value.ownBlock] at he
    rcases hat with hat | hat
    · exact hb3 (by rw [hat, he])
    · simp at hat; omega
  have cc : ∀ b q, Kg base v wr b → w8.cell? ⟨b, q, none⟩ = wr.cell? ⟨b, q, none⟩ := fun b q hb =>
    (hg.cell_far ⟨b, q, none⟩ (by simp; have := hb.2.1; omega) (fun e => hb.2.2 e.symm)).trans ((bal wr o).cell (p := ⟨b, q, none⟩) hb.2.1)
  refine ⟨⟨fun j => if j = l.length then x else V j, ?_, fun j e hj => ?_, by omega⟩, hgr⟩
  · rw [RowKind.rows_snoc, List.length_append]
    simpa using h8
  · by_cases hji : j < l.length
    · have hj' : l[j]? = some e := by
        rw [List.getElem?_append_left (by omega)] at hj
        exact hj
      simp only [show j ≠ l.length by omega, if_false]
      exact K.keep (h2 j e hj') kk cc
    · have hji' : j = l.length := by
        have := (List.getElem?_eq_some_iff.1 hj).1
        simp at this
        omega
      subst hji'
      rw [List.getElem?_append_right (by omega), Nat.sub_self] at hj
      simp at hj
      subst hj
      simp only [if_true]
      exact K.keep hN kk cc
theorem GrI.done {base : Nat} {l : List α} {v : Value} {wr : World} (h : GrI K base l v wr) : (l = [] ∧ ∃ A c, v = .slice A 0 c) ∨
    ∃ (g cap : Nat) (V : Nat → β), v = .slice (some ⟨g, 0, none⟩) l.length cap ∧ base ≤ g ∧ RowAt wr g K.T K.sz cap (K.rows l V) ∧ ∀ (j : Nat) a, l[j]? = some a → K.part wr (fun b => base ≤ b ∧ b < wr.heap.size ∧ b ≠ g) a (V j) := by
  obtain ⟨V, h1, h2, h3⟩ := h
  rcases Nat.eq_zero_or_pos l.length with h0 | h0
  · have := List.eq_nil_of_length_eq_zero h0
    subst this
    rcases h1.2 with ⟨rfl, _⟩ | ⟨g, cap, cur, rfl, _⟩
    · exact .inl ⟨rfl, _, _, rfl⟩
    · exact .inl ⟨rfl, _, _, rfl⟩
  · have h1' : wr.ownsRow base K.T K.sz v (K.rows l V).length (K.rows l V).flatten := by rw [RowKind.rows_len]; exact h1
    obtain ⟨g, cap, rfl, hg, hr⟩ := RowAt.of_own h1' (RowKind.rows_sz _ _) (by rw [RowKind.rows_len]; exact h0)
    rw [RowKind.rows_len] at h2 ⊢
    exact .inr ⟨g, cap, V, rfl, hg, hr, fun j a hj => K.keep (h2 j a hj) (fun b hb => ⟨hb.1, hb.2.1, fun e => hb.2.2 (by rw [e]; rfl)⟩) fun _ _ _ => rfl⟩
end

/-! ### the four kinds -/
def kE : RowKind Ex Value := ⟨67, 5, eC, fun w R e v => OkE e ∧ ER w R e.args v, fun _ _ => rfl, fun h hR hk => ⟨h.1, h.2.keep hR hk⟩⟩
section
variable {base : Nat} {v : Value} {wr : World}
theorem GrI.er {l : List Ex} (h : GrI kE base l v wr) (hl : l.length ≤ 1000) : ER wr (Rn base wr.heap.size) l v := by
  rcases h.done with ⟨rfl, A, c, rfl⟩ | ⟨g, cap, V, rfl, hg, hr, hp⟩
  · exact ER.nil _ _
  · exact ER.of_row (V := V) hr ⟨hg, hr.lt⟩ (by omega) (fun i e hi => (hp i e hi).1) fun i e hi => (hp i e hi).2.keep (fun b hb => ⟨hb.1, hb.2.1⟩) fun _ _ _ => rfl
end
end Go.Proofs.YtipepljmfgjbpaaGreatDoor.S3

namespace Go.Proofs.YtipepljmfgjbpaaGreatDoor.S3
open Go Go.RowKit
section
variable {α β : Type} {K : RowKind α β}
theorem RowKind.rows_app (l m : List α) (V U : Nat → β) : K.rows (l ++ m) (fun j => if j < l.length then V j else U (j - l.length)) = K.rows l V ++ K.rows m U := by
  unfold RowKind.rows
  rw [List.mapIdx_append]
  congr 1
  · apply List.ext_getElem?
    intro j
    rw [List.getElem?_mapIdx, List.getElem?_mapIdx]
    by_cases hj : j < l.length
    · simp [hj]
    · rw [List.getElem?_eq_none (by omega)]; rfl
  · apply List.ext_getElem?
    intro j
    rw [List.getElem?_mapIdx, List.getElem?_mapIdx]
    simp [show ¬ (j + l.length < l.length) by omega]
/-- A list of elements, of new blocks, is put behind. -/
theorem GrI.cat {base : Nat} {l m : List α} {v : Value} {wr : World} {U : Nat → β} (h : GrI K base l v wr) (hm : ∀ (j : Nat) a, m[j]? = some a → K.part wr (Kg base v wr) a (U j)) : ∃ xs, wr.ownsRow base K.T K.sz v l.length xs ∧
    (∀ g cap w8, w8.ownsRow base K.T K.sz (.slice (some ⟨g, 0, none⟩) (l.length + m.length) cap) (l.length + m.length) (xs ++ (K.rows m U).flatten) → wr.grownBy w8 v.ownBlock → (v.ownBlock = some g ∨ g = wr.heap.size) →
      GrI K base (l ++ m) (.slice (some ⟨g, 0, none⟩) (l.length + m.length) cap) w8 ∧ Below base wr w8) := by
  obtain ⟨V, h1, h2, h3⟩ := h
  refine ⟨_, h1, fun g cap w8 h8 hg hat => ?_⟩
  have hsz8 : wr.heap.size ≤ w8.heap.size := hg.size
  have hown := h1.lt
  have hgr : Below base wr w8 := ((Below.refl _ wr).mono h3).grown hg h3 fun j hj => (hown j hj).1
  have kk : ∀ b, Kg base v wr b → Kg base (.slice (some ⟨g, 0, none⟩) (l.length + m.length) cap) w8 b := by
    rintro b ⟨hb1, hb2, hb3⟩
    refine ⟨hb1, by omega, fun he => ?_⟩
    simp [Value.ownBlock] at he
    rcases hat with hat | hat
    · exact hb3 (by rw [hat, he])
    · omega
  have cc : ∀ b q, Kg base v wr b → w8.cell? ⟨b, q, none⟩ = wr.cell? ⟨b, q, none⟩ := fun b q hb =>
    hg.cell_far ⟨b, q, none⟩ hb.2.1 (fun e => hb.2.2 e.symm)
  refine ⟨⟨fun j => if j < l.length then V j else U (j - l.length), ?_, fun j e hj => ?_, by omega⟩, hgr⟩
  · rw [RowKind.rows_app, List.length_append]
    simpa using h8
  · by_cases hji : j < l.length
    · rw [List.getElem?_append_left (by omega)] at hj
      simp only [hji, if_true]
      exact K.keep (h2 j e hj) kk cc
    · rw [List.getElem?_append_right (by omega)] at hj
      simp only [hji, if_false]
      exact K.keep (hm _ e hj) kk cc
theorem GrI.le {base : Nat} {l : List α} {v : Value} {wr : World} (h : GrI K base l v wr) {b : Nat} (hb : v.ownBlock = some b) : base ≤ b ∧ b < wr.heap.size := by
  obtain ⟨V, h1, _⟩ := h
  exact h1.lt b hb
end
end Go.Proofs.YtipepljmfgjbpaaGreatDoor.S3
