/-
  Statements in memory of their own: each list in a row of its own, apart from all others.
-/
import Derived.Test.YthiilnhiihfknaaDoorSMm
namespace Go.Proofs.YthiilnhiihfknaaDoor
open Go Go.RowKit

/-- Where a statement's parts lie: args from a, body from b, else from e, up to z. -/
structure Iv where
  a : Nat
  b : Nat
  e : Nat
  z : Nat
structure IvOk (lo hi g n : Nat) (I : Nat → Iv) : Prop where
  each : ∀ i, i < n → lo ≤ (I i).a ∧ (I i).a ≤ (I i).b ∧ (I i).b ≤ (I i).e ∧ (I i).e ≤ (I i).z ∧ (I i).z ≤ hi ∧ ¬ ((I i).a ≤ g ∧ g < (I i).z)
  ord : ∀ i j, i < j → j < n → (I i).z ≤ (I j).a
inductive OS (w : World) : Nat → Nat → List St → Value → Prop
  | mk (lo hi : Nat) (l : List St) (A : Option Addr) (g cap : Nat) (V : Nat → Value × Value × Value) (I : Nat → Iv) (hlen : l.length ≤ 1000)
      (hrow : 0 < l.length → A = some ⟨g, 0, none⟩ ∧ lo ≤ g ∧ g < hi ∧ RowAt w g 46 8 cap (rowsS l V))
      (hI : IvOk lo hi g l.length I)
      (ho : ∀ (i : Nat) s, l[i]? = some s → OkS s)
      (ha : ∀ (i : Nat) s, l[i]? = some s → ER w (fun b => (I i).a ≤ b ∧ b < (I i).b) s.args (V i).1)
      (hb : ∀ (i : Nat) s, l[i]? = some s → OS w (I i).b (I i).e s.body (V i).2.1)
      (he : ∀ (i : Nat) s, l[i]? = some s → OS w (I i).e (I i).z s.els (V i).2.2) : OS w lo hi l (.slice A l.length cap)
theorem OS.nil {w : World} (lo hi : Nat) (A : Option Addr) (c : Nat) : OS w lo hi [] (.slice A 0 c) :=
  .mk lo hi [] A 0 c (fun _ => (.bool false, .bool false, .bool false)) (fun _ => ⟨0, 0, 0, 0⟩) (by simp) (fun h => absurd h (by simp)) ⟨fun i h => absurd h (by simp), fun i j _ h => absurd h (by simp)⟩ (fun i s h => by simp at h) (fun i s h => by simp at h) (fun i s h => by simp at h) (fun i s h => by simp at h)
theorem OS.slice {w : World} {lo hi : Nat} {l : List St} {v : Value} (h : OS w lo hi l v) : ∃ A c, v = .slice A l.length c := by cases h; exact ⟨_, _, rfl⟩
theorem OS.len {w : World} {lo hi : Nat} {l : List St} {v : Value} (h : OS w lo hi l v) : l.length ≤ 1000 := by cases h; assumption
theorem OS.keep {w w' : World} {lo hi : Nat} {l : List St} {v : Value} (h : OS w lo hi l v) (hk : ∀ b, lo ≤ b → b < hi → w'.heap[b]? = w.heap[b]?) : OS w' lo hi l v := by
  revert hk
  induction h with
  | mk lo hi l A g cap V I hlen hrow hI ho ha hb he ihb ihe =>
    intro hk
    have lt := fun (i : Nat) (s : St) (hi : l[i]? = some s) => (List.getElem?_eq_some_iff.1 hi).1
    refine .mk lo hi l A g cap V I hlen (fun h0 => ?_) hI ho (fun i s hs => ?_) (fun i s hs => ihb i s hs fun b h1 h2 => ?_) (fun i s hs => ihe i s hs fun b h1 h2 => ?_)
    · obtain ⟨h1, h2, h3, h4⟩ := hrow h0
      exact ⟨h1, h2, h3, h4.keep (hk g h2 h3)⟩
    · have := hI.each i (lt i s hs)
      exact (ha i s hs).keep (fun _ h => h) fun b q hb => World.cell?_of_block (w := w) (hk b (by omega) (by omega))
    · have := hI.each i (lt i s hs)
      exact hk b (by omega) (by omega)
    · have := hI.each i (lt i s hs)
      exact hk b (by omega) (by omega)
theorem OS.mono {w : World} {lo hi lo' hi' : Nat} {l : List St} {v : Value} (h : OS w lo hi l v) (h1 : lo' ≤ lo) (h2 : hi ≤ hi') : OS w lo' hi' l v := by
  cases h with
  | mk _ _ _ A g cap V I hlen hrow hI ho ha hb he =>
    refine .mk lo' hi' l A g cap V I hlen (fun h0 => ?_) ⟨fun i hi => ?_, hI.ord⟩ ho ha hb he
    · obtain ⟨e1, e2, e3, e4⟩ := hrow h0
      exact ⟨e1, by omega, by omega, e4⟩
    · have := hI.each i hi
      omega
theorem OS.sr {w : World} {lo hi : Nat} {l : List St} {v : Value} (h : OS w lo hi l v) : SR w (fun b => lo ≤ b ∧ b < hi) l v := by
  induction h with
  | mk lo hi l A g cap V I hlen hrow hI ho ha hb he ihb ihe =>
    rcases Nat.eq_zero_or_pos l.length with h0 | h0
    · obtain rfl := List.eq_nil_of_length_eq_zero h0
      exact SR.nil _ _
    · obtain ⟨rfl, h2, h3, h4⟩ := hrow h0
      have lt := fun (i : Nat) (s : St) (hi : l[i]? = some s) => (List.getElem?_eq_some_iff.1 hi).1
      refine SR.of_row h4 ⟨h2, h3⟩ (by omega) ho (fun i s hs => ?_) (fun i s hs => ?_) (fun i s hs => ?_) <;> have := hI.each i (lt i s hs)
      · exact (ha i s hs).keep (fun b hb => ⟨by omega, by omega⟩) fun _ _ _ => rfl
      · exact (ihb i s hs).keep (fun b hb => ⟨by omega, by omega⟩) fun _ _ _ => rfl
      · exact (ihe i s hs).keep (fun b hb => ⟨by omega, by omega⟩) fun _ _ _ => rfl

/-- A list that is not empty, with its row. -/
structure OX (w : World) (lo hi : Nat) (l : List St) (g cap : Nat) (V : Nat → Value × Value × Value) (I : Nat → Iv) : Prop where
  g1 : lo ≤ g
  g2 : g < hi
  row : RowAt w g 46 8 cap (rowsS l V)
  iv : IvOk lo hi g l.length I
  ok : ∀ (i : Nat) s, l[i]? = some s → OkS s
  a : ∀ (i : Nat) s, l[i]? = some s → ER w (fun b => (I i).a ≤ b ∧ b < (I i).b) s.args (V i).1
  b : ∀ (i : Nat) s, l[i]? = some s → OS w (I i).b (I i).e s.body (V i).2.1
  e : ∀ (i : Nat) s, l[i]? = some s → OS w (I i).e (I i).z s.els (V i).2.2
theorem OX.os {w : World} {lo hi g cap : Nat} {l : List St} {V : Nat → Value × Value × Value} {I : Nat → Iv} (h : OX w lo hi l g cap V I) (hl : l.length ≤ 1000) : OS w lo hi l (.slice (some ⟨g, 0, none⟩) l.length cap) :=
  .mk lo hi l _ g cap V I hl (fun _ => ⟨rfl, h.g1, h.g2, h.row⟩) h.iv h.ok h.a h.b h.e
theorem OS.ox {w : World} {lo hi n c : Nat} {l : List St} {A : Option Addr} (h : OS w lo hi l (.slice A n c)) (h0 : 0 < l.length) : ∃ g V I, A = some ⟨g, 0, none⟩ ∧ n = l.length ∧ OX w lo hi l g c V I := by
  cases h with
  | mk _ _ _ _ g _ V I hlen hrow hI ho ha hb he =>
    obtain ⟨rfl, h2, h3, h4⟩ := hrow h0
    exact ⟨g, V, I, rfl, rfl, h2, h3, h4, hI, ho, ha, hb, he⟩

/-! ### all old blocks but those of an interval, and one more, are as they were -/
structure Fo (lo hi N : Nat) (w w' : World) : Prop where
  os : w'.os = w.os
  tape : w'.tape = w.tape
  output : w'.output = w.output
  size : w.heap.size ≤ w'.heap.size
  block : ∀ b, b < w.heap.size → ¬ (lo ≤ b ∧ b < hi) → b ≠ N → w'.heap[b]? = w.heap[b]?
theorem Fo.refl (lo hi N : Nat) (w : World) : Fo lo hi N w w := ⟨rfl, rfl, rfl, Nat.le_refl _, fun _ _ _ _ => rfl⟩
theorem Fo.trans {lo hi N : Nat} {w a b : World} (h : Fo lo hi N w a) (k : Fo lo hi N a b) : Fo lo hi N w b :=
  ⟨k.os.trans h.os, k.tape.trans h.tape, k.output.trans h.output, Nat.le_trans h.size k.size, fun i hi h1 h2 => (k.block i (Nat.lt_of_lt_of_le hi h.size) h1 h2).trans (h.block i hi h1 h2)⟩
theorem Fo.mono {lo hi lo' hi' N : Nat} {w a : World} (h : Fo lo hi N w a) (h1 : lo' ≤ lo) (h2 : hi ≤ hi') : Fo lo' hi' N w a := ⟨h.os, h.tape, h.output, h.size, fun b hb hn => h.block b hb (by omega)⟩
theorem Fo.of {lo hi N : Nat} {w a : World} (h : Below w.heap.size w a) : Fo lo hi N w a := ⟨h.os, h.tape, h.output, h.size, fun b hb _ _ => h.block b hb⟩
theorem Fo.set {lo hi N : Nat} {w a : World} (h : Fo lo hi N w a) {p : Addr} (hp : (lo ≤ p.block ∧ p.block < hi) ∨ p.block = N) (u : Value) : Fo lo hi N w (a.setCell p u) :=
  ⟨h.os, h.tape, h.output, by simpa [World.setCell] using h.size, fun b hb h1 h2 => (Below.heap_setCell a p u b (by rintro rfl; rcases hp with hp | hp; exact h1 hp; exact h2 hp)).trans (h.block b hb h1 h2)⟩
theorem Fo.below {lo hi N M : Nat} {w a : World} (h : Fo lo hi N w a) (hw : M ≤ w.heap.size) (h1 : M ≤ lo) (hN : M ≤ N) : Below M w a := ⟨h.os, h.tape, h.output, h.size, fun i hi => h.block i (by omega) (by omega) (by omega)⟩
theorem OS.fo {w w' : World} {lo hi l0 h0 N : Nat} {l : List St} {v : Value} (h : OS w lo hi l v) (hf : Fo l0 h0 N w w') (hs : hi ≤ w.heap.size) (hd : h0 ≤ lo ∨ hi ≤ l0) (hN : N < lo ∨ hi ≤ N) : OS w' lo hi l v :=
  h.keep fun b h1 h2 => hf.block b (by omega) (by omega) (by omega)
theorem rowsS_put {l : List St} {V : Nat → Value × Value × Value} {i : Nat} {s : St} (s' : St) (hi : l[i]? = some s) : rowsS (l.set i s') V = (rowsS l V).set i (sC s' (V i).1 (V i).2.1 (V i).2.2) := by
  have hl := (List.getElem?_eq_some_iff.1 hi).1
  apply List.ext_getElem?
  intro j
  by_cases hj : j = i
  · subst hj
    rw [List.getElem?_set_self (by rw [rowsS_len]; exact hl), rowsS_get (List.getElem?_set_self hl)]
  · rw [List.getElem?_set_ne (by omega)]
    simp only [rowsS, List.getElem?_mapIdx, List.getElem?_set_ne (Ne.symm hj)]
/-- One statement gets a number, and its blocks get theirs. -/
theorem OX.step {w w3 : World} {lo hi g cap N : Nat} {m : List St} {V : Nat → Value × Value × Value} {I : Nat → Iv} (h : OX w lo hi m g cap V I) (hhi : hi ≤ w.heap.size) (hN : N < lo ∨ hi ≤ N) {i : Nat} {s : St} (hm : m[i]? = some s) {n : Int} (hn : okI n) {body els : List St}
    (hf : Fo (I i).b (I i).z N (w.setCell ⟨g, i * 8 + 1, none⟩ (.int .i64 n)) w3) (hb : OS w3 (I i).b (I i).e body (V i).2.1) (he : OS w3 (I i).e (I i).z els (V i).2.2) :
    OX w3 lo hi (m.set i { s with no := n, body := body, els := els }) g cap V I := by
  have hil := (List.getElem?_eq_some_iff.1 hm).1
  have hi0 := h.iv.each i hil
  have hsz : (w.setCell ⟨g, i * 8 + 1, none⟩ (.int .i64 n)).heap.size = w.heap.size := by simp [World.setCell]
  have hother : ∀ b, lo ≤ b → b < hi → b ≠ g → ¬ ((I i).b ≤ b ∧ b < (I i).z) → w3.heap[b]? = w.heap[b]? := fun b h1 h2 h3 h4 =>
    (hf.block b (by rw [hsz]; omega) h4 (by omega)).trans (Below.heap_setCell w _ _ b h3)
  have hrest : ∀ (j : Nat) t, j ≠ i → (m.set i { s with no := n, body := body, els := els })[j]? = some t → m[j]? = some t := fun j t hj ht => by rwa [List.getElem?_set_ne (Ne.symm hj)] at ht
  have hself : ∀ t, (m.set i { s with no := n, body := body, els := els })[i]? = some t → t = { s with no := n, body := body, els := els } := fun t ht => by rw [List.getElem?_set_self hil] at ht; exact (Option.some.inj ht).symm
  have hdis : ∀ (j : Nat), j ≠ i → j < m.length → (I j).z ≤ (I i).a ∨ (I i).z ≤ (I j).a := fun j hj hl => by
    rcases Nat.lt_or_ge j i with h1 | h1
    · exact .inl (h.iv.ord j i h1 hil)
    · exact .inr (h.iv.ord i j (by omega) hl)
  refine ⟨h.g1, h.g2, ?_, by rw [List.length_set]; exact h.iv, fun j t ht => ?_, fun j t ht => ?_, fun j t ht => ?_, fun j t ht => ?_⟩
  · rw [rowsS_put _ hm]
    have h1 := (h.row.set1 (rowsS_get hm) (j := 1) (by omega) (.int .i64 n)).keep (w' := w3) (hf.block g (by rw [hsz]; have := h.g2; omega) (by omega) (by have := h.g1; have := h.g2; omega))
    exact h1
  · by_cases hj : j = i
    · subst hj
      rw [hself t ht]
      have := h.ok j s hm
      exact ⟨this.kind, hn, this.typ, this.name, this.callee⟩
    · exact h.ok j t (hrest j t hj ht)
  · by_cases hj : j = i
    · subst hj
      rw [hself t ht]
      exact (h.a j s hm).keep (fun _ h => h) fun b q hb => World.cell?_of_block (w := w) (hother b (by omega) (by omega) (by omega) (by omega))
    · have h1 := hrest j t hj ht
      have h2 := (List.getElem?_eq_some_iff.1 h1).1
      have h3 := h.iv.each j h2
      have h4 := hdis j hj h2
      exact (h.a j t h1).keep (fun _ h => h) fun b q hb => World.cell?_of_block (w := w) (hother b (by omega) (by omega) (by omega) (by omega))
  · by_cases hj : j = i
    · subst hj
      rw [hself t ht]
      exact hb
    · have h1 := hrest j t hj ht
      have h2 := (List.getElem?_eq_some_iff.1 h1).1
      have h3 := h.iv.each j h2
      have h4 := hdis j hj h2
      exact (h.b j t h1).keep fun b e1 e2 => hother b (by omega) (by omega) (by omega) (by omega)
  · by_cases hj : j = i
    · subst hj
      rw [hself t ht]
      exact he
    · have h1 := hrest j t hj ht
      have h2 := (List.getElem?_eq_some_iff.1 h1).1
      have h3 := h.iv.each j h2
      have h4 := hdis j hj h2
      exact (h.e j t h1).keep fun b e1 e2 => hother b (by omega) (by omega) (by omega) (by omega)

/-- What clone gives of a statement. -/
structure ClS (w w' : World) (s : St) (va vb ve : Value) (I : Iv) : Prop where
  lo : w.heap.size ≤ I.a
  ab : I.a ≤ I.b
  be : I.b ≤ I.e
  ez : I.e ≤ I.z
  hi : I.z ≤ w'.heap.size
  a : ER w' (fun b => I.a ≤ b ∧ b < I.b) s.args va
  b : OS w' I.b I.e s.body vb
  e : OS w' I.e I.z s.els ve
  bel : Below w.heap.size w w'
/-- What has been cloned of a list after i rounds. -/
structure CX (w wr : World) (l : List St) (g cap i : Nat) (V0 V : Nat → Value × Value × Value) (I : Nat → Iv) : Prop where
  g1 : w.heap.size ≤ g
  g2 : g < wr.heap.size
  row : RowAt wr g 46 8 cap (rowsS l V)
  iv : IvOk w.heap.size wr.heap.size g i I
  a : ∀ (j : Nat) s, l[j]? = some s → j < i → ER wr (fun b => (I j).a ≤ b ∧ b < (I j).b) s.args (V j).1
  b : ∀ (j : Nat) s, l[j]? = some s → j < i → OS wr (I j).b (I j).e s.body (V j).2.1
  e : ∀ (j : Nat) s, l[j]? = some s → j < i → OS wr (I j).e (I j).z s.els (V j).2.2
  old : ∀ j, i ≤ j → V j = V0 j
  bel : Below w.heap.size w wr
end Go.Proofs.YthiilnhiihfknaaDoor
