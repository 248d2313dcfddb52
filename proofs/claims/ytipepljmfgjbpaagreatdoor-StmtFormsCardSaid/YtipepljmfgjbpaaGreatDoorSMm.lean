/-
  PLAIN LAWS on visits, numbers, equality of statements; and the frame 'all old blocks but two are as they were'.
  Rows of elements of several cells in one block of the call's own: read, written, cloned.
  Parameters and functions in memory.
  slices.Clone at its four types: contracts. Written by gen3_clone.py.
  Lists in memory as rows of cells, and back. Written by gen3_rows.py.
-/
import Derived.Test.YtipepljmfgjbpaaGreatDoorSBx
import Derived.OwnWalk
import Derived.Lib.LazyBuf
namespace Go.Proofs.YtipepljmfgjbpaaGreatDoor.S3
open Go Go.RowKit

/-! ### visits -/
section
variable {F : Nat → St → Bool} {k : Nat}
end
/-! ### all old blocks but two are as they were -/
structure Fr (N S : Nat) (w w' : World) : Prop where
  os : w'.os = w.os
  tape : w'.tape = w.tape
  output : w'.output = w.output
  size : w.heap.size ≤ w'.heap.size
  block : ∀ b, b < w.heap.size → b ≠ N → b ≠ S → w'.heap[b]? = w.heap[b]?
section
variable {N S : Nat} {w a b : World}
theorem Fr.refl (N S : Nat) (w : World) : Fr N S w w := ⟨rfl, rfl, rfl, Nat.le_refl _, fun _ _ _ _ => rfl⟩
theorem Fr.trans (h : Fr N S w a) (k : Fr N S a b) : Fr N S w b :=
  ⟨k.os.trans h.os, k.tape.trans h.tape, k.output.trans h.output, Nat.le_trans h.size k.size, fun i hi h1 h2 => (k.block i (Nat.lt_of_lt_of_le hi h.size) h1 h2).trans (h.block i hi h1 h2)⟩
theorem Fr.of (h : Below w.heap.size w a) : Fr N S w a := ⟨h.os, h.tape, h.output, h.size, fun i hi _ _ => h.block i hi⟩
theorem Fr.alloc (h : Fr N S w a) (o : Obj) : Fr N S w (a.alloc o) := h.trans (Fr.of (bal a o))
theorem Fr.set (h : Fr N S w a) {p : Addr} (hp : p.block = N ∨ p.block = S) (u : Value) : Fr N S w (a.setCell p u) :=
  ⟨h.os, h.tape, h.output, by simpa [World.setCell] using h.size, fun i hi h1 h2 => (Below.heap_setCell a p u i (by rintro rfl; rcases hp with hp | hp; exact h1 hp; exact h2 hp)).trans (h.block i hi h1 h2)⟩
theorem Fr.below (h : Fr N S w a) {M : Nat} (hw : M ≤ w.heap.size) (hN : M ≤ N) (hS : M ≤ S) : Below M w a := ⟨h.os, h.tape, h.output, h.size, fun i hi => h.block i (by omega) (by omega) (by omega)⟩
theorem Fr.heap (h : Fr N S w a) {b : Nat} {o : Obj} (hb : w.heap[b]? = some o) (h1 : b ≠ N) (h2 : b ≠ S) : a.heap[b]? = some o := (h.block b (lt_of_block hb) h1 h2).trans hb
theorem Fr.cell (h : Fr N S w a) {b i : Nat} (hb : b < w.heap.size) (h1 : b ≠ N) (h2 : b ≠ S) : a.cell? ⟨b, i, none⟩ = w.cell? ⟨b, i, none⟩ := World.cell?_of_block (w := w) (h.block b hb h1 h2)
theorem SBox.fr {b' : Nat} {s : St} {va vb ve : Value} (h : SBox w b' s va vb ve) (hf : Fr N S w a) (hb : b' < w.heap.size) (h1 : b' ≠ N) (h2 : b' ≠ S) : SBox a b' s va vb ve := by
  obtain ⟨c0, c1, c2, c3, c4, c5, c6, c7⟩ := h
  have k := fun i => hf.cell (i := i) hb h1 h2
  exact ⟨(k 0).trans c0, (k 1).trans c1, (k 2).trans c2, (k 3).trans c3, (k 4).trans c4, (k 5).trans c5, (k 6).trans c6, (k 7).trans c7⟩
end
end Go.Proofs.YtipepljmfgjbpaaGreatDoor.S3

namespace Go.Proofs.YtipepljmfgjbpaaGreatDoor.S3
open Go Go.RowKit

structure RowAt (w : World) (g : Nat) (T : TypeId) (sz cap : Nat) (rows : List (List Value)) : Prop where
  ex : ∃ cs : Array Value, w.heap[g]? = some (.cells cs T (0, 0)) ∧ cs.size = cap * sz ∧ rows.length ≤ cap ∧ (∀ r ∈ rows, r.length = sz) ∧ ∀ i r j u, rows[i]? = some r → r[j]? = some u → cs[i * sz + j]? = some u
section
variable {w w' : World} {g : Nat} {T : TypeId} {sz cap : Nat} {rows : List (List Value)}
theorem RowAt.lt (h : RowAt w g T sz cap rows) : g < w.heap.size := by obtain ⟨cs, h, _⟩ := h.ex; exact lt_of_block h
theorem RowAt.cell (h : RowAt w g T sz cap rows) {i j : Nat} {r : List Value} {u : Value} (hr : rows[i]? = some r) (hj : r[j]? = some u) : w.cell? ⟨g, i * sz + j, none⟩ = some u := by
  obtain ⟨cs, h, _, _, _, hc⟩ := h.ex
  rw [cell_of_row w g (i * sz + j) cs T (0, 0) h]
  exact hc i r j u hr hj
theorem RowAt.free (h : RowAt w g T sz cap rows) (i : Nat) : w.frozen? ⟨g, i, none⟩ = false := by
  obtain ⟨cs, h, _⟩ := h.ex
  simp [World.frozen?, h]
theorem RowAt.keep (h : RowAt w g T sz cap rows) (hb : w'.heap[g]? = w.heap[g]?) : RowAt w' g T sz cap rows := by
  obtain ⟨cs, h, hh⟩ := h.ex
  exact ⟨cs, hb.trans h, hh⟩
theorem RowAt.fr (h : RowAt w g T sz cap rows) {N S : Nat} (hf : Fr N S w w') (h1 : g ≠ N) (h2 : g ≠ S) : RowAt w' g T sz cap rows := h.keep (hf.block g h.lt h1 h2)
theorem RowAt.bel (h : RowAt w g T sz cap rows) {M : Nat} (hb : Below M w w') (hg : g < M) : RowAt w' g T sz cap rows := h.keep (hb.block g hg)
theorem idx_ne {i j a b sz : Nat} (ha : a < sz) (hb : b < sz) (h : i * sz + a = j * sz + b) : i = j ∧ a = b := by
  have hsz : 0 < sz := by omega
  have h1 : (i * sz + a) / sz = (j * sz + b) / sz := by rw [h]
  rw [Nat.mul_comm i, Nat.mul_comm j, Nat.mul_add_div hsz, Nat.mul_add_div hsz, Nat.div_eq_of_lt ha, Nat.div_eq_of_lt hb] at h1
  have h2 : i = j := by omega
  subst h2
  exact ⟨rfl, by omega⟩
theorem RowAt.set1 (h : RowAt w g T sz cap rows) {i j : Nat} {r : List Value} (hr : rows[i]? = some r) (hj : j < sz) (u : Value) : RowAt (w.setCell ⟨g, i * sz + j, none⟩ u) g T sz cap (rows.set i (r.set j u)) := by
  obtain ⟨cs, hh, hs, hl, hlen, hc⟩ := h.ex
  have hi : i < rows.length := (List.getElem?_eq_some_iff.1 hr).1
  have hrl : r.length = sz := hlen r (List.mem_of_getElem? hr)
  have hin : i * sz + j < cs.size := by
    rw [hs]
    have : (i + 1) * sz ≤ cap * sz := Nat.mul_le_mul_right _ (by omega)
    rw [Nat.add_mul] at this
    omega
  refine ⟨cs.setIfInBounds (i * sz + j) u, ?_, by simpa using hs, by simpa using hl, ?_, ?_⟩
  · simp [World.setCell, Array.getElem?_modify, hh]
  · intro x hx
    rcases List.mem_or_eq_of_mem_set hx with hx | rfl
    · exact hlen x hx
    · simpa using hrl
  · intro i' r' j' u' hr' hj'
    by_cases hii : i' = i
    · subst hii
      rw [List.getElem?_set_self hi] at hr'
      cases hr'
      by_cases hjj : j' = j
      · subst hjj
        rw [List.getElem?_set_self (by omega)] at hj'
        cases hj'
        rw [Array.getElem?_setIfInBounds_self_of_lt hin]
      · rw [List.getElem?_set_ne (by omega)] at hj'
        rw [Array.getElem?_setIfInBounds_ne (by omega)]
        exact hc i' r j' u' hr hj'
    · rw [List.getElem?_set_ne (by omega)] at hr'
      have hr'l : r'.length = sz := hlen r' (List.mem_of_getElem? hr')
      have hj2 : j' < sz := by rw [← hr'l]; exact (List.getElem?_eq_some_iff.1 hj').1
      rw [Array.getElem?_setIfInBounds_ne (fun e => hii ((idx_ne hj hj2 e).1).symm)]
      exact hc i' r' j' u' hr' hj'
theorem set_get {α : Type} {l : List α} {i : Nat} {x y : α} (h : l[i]? = some x) : (l.set i y)[i]? = some y := List.getElem?_set_self (List.getElem?_eq_some_iff.1 h).1
theorem RowAt.set5 (h : RowAt w g T 5 cap rows) {i : Nat} {r : List Value} (hr : rows[i]? = some r) (u0 u1 u2 u3 u4 : Value) :
    RowAt (((((w.setCell ⟨g, i * 5, none⟩ u0).setCell ⟨g, i * 5 + 1, none⟩ u1).setCell ⟨g, i * 5 + 2, none⟩ u2).setCell ⟨g, i * 5 + 3, none⟩ u3).setCell ⟨g, i * 5 + 4, none⟩ u4) g T 5 cap (rows.set i [u0, u1, u2, u3, u4]) := by
  have hrl : r.length = 5 := by obtain ⟨cs, _, _, _, hlen, _⟩ := h.ex; exact hlen r (List.mem_of_getElem? hr)
  have h0 := h.set1 (j := 0) hr (by omega) u0
  have h1 := h0.set1 (j := 1) (set_get hr) (by omega) u1
  rw [List.set_set] at h1
  have h2 := h1.set1 (j := 2) (set_get hr) (by omega) u2
  rw [List.set_set] at h2
  have h3 := h2.set1 (j := 3) (set_get hr) (by omega) u3
  rw [List.set_set] at h3
  have h4 := h3.set1 (j := 4) (set_get hr) (by omega) u4
  rw [List.set_set] at h4
  match r, hrl with
  | [_, _, _, _, _], _ => exact h4
end

theorem flat_get {rows : List (List Value)} {sz : Nat} (h : ∀ r ∈ rows, r.length = sz) : ∀ (i j : Nat), j < sz → rows.flatten[i * sz + j]? = (rows[i]?).bind (·[j]?) := by
  induction rows with
  | nil => intro i j _; simp
  | cons r rows ih =>
    intro i j hj
    have hr : r.length = sz := h r (by simp)
    cases i with
    | zero => rw [List.flatten_cons, List.getElem?_append_left (by omega)]; simp
    | succ i =>
      rw [List.flatten_cons, List.getElem?_append_right (by rw [hr, Nat.add_mul]; omega), hr, show (i + 1) * sz + j - sz = i * sz + j by rw [Nat.add_mul]; omega, ih (fun x hx => h x (by simp [hx])) i j hj]
      simp
theorem flat_len {rows : List (List Value)} {sz : Nat} (h : ∀ r ∈ rows, r.length = sz) : rows.flatten.length = rows.length * sz := by
  induction rows with
  | nil => simp
  | cons r rows ih =>
    rw [List.flatten_cons, List.length_append, ih (fun x hx => h x (by simp [hx])), h r (by simp), List.length_cons, Nat.add_mul]
    omega
/-- An owned row as rows of elements. -/
theorem RowAt.of_own {w : World} {base : Nat} {T : TypeId} {sz : Nat} {v : Value} {rows : List (List Value)} (h : w.ownsRow base T sz v rows.length rows.flatten) (hlen : ∀ r ∈ rows, r.length = sz) (h0 : 0 < rows.length) :
    ∃ g cap, v = .slice (some ⟨g, 0, none⟩) rows.length cap ∧ base ≤ g ∧ RowAt w g T sz cap rows := by
  rcases h.2 with ⟨_, h⟩ | ⟨g, cap, cur, hv, hb, hh, hn, _, hs, ht⟩
  · omega
  · refine ⟨g, cap, hv, hb, cur, hh, hs, hn, hlen, fun i r j u hr hj => ?_⟩
    have hj2 : j < sz := by rw [← hlen r (List.mem_of_getElem? hr)]; exact (List.getElem?_eq_some_iff.1 hj).1
    have e := flat_get hlen i j hj2
    rw [hr, Option.bind_some, hj, ← ht, List.getElem?_take] at e
    split at e
    · simpa using e
    · cases e
end Go.Proofs.YtipepljmfgjbpaaGreatDoor.S3

namespace Go.Proofs.YtipepljmfgjbpaaGreatDoor.S3
open Go Go.RowKit

structure OkP (p : Pa) : Prop where
  name : p.name.length ≤ 9223372036854775807
  typ : okI p.typ
structure OkF (f : Fn) : Prop where
  name : f.name.length ≤ 9223372036854775807
  result : okI f.result
  count : okI f.count
structure PCells (w : World) (b o : Nat) (p : Pa) : Prop where
  c0 : w.cell? ⟨b, o, none⟩ = some (.string (B p.name))
  c1 : w.cell? ⟨b, o + 1, none⟩ = some (.int .i64 p.typ)
structure FCells (w : World) (b o : Nat) (f : Fn) (vp vb : Value) : Prop where
  c0 : w.cell? ⟨b, o, none⟩ = some (.string (B f.name))
  c1 : w.cell? ⟨b, o + 1, none⟩ = some vp
  c2 : w.cell? ⟨b, o + 2, none⟩ = some (.int .i64 f.result)
  c3 : w.cell? ⟨b, o + 3, none⟩ = some vb
  c4 : w.cell? ⟨b, o + 4, none⟩ = some (.int .i64 f.count)
/-- A slice value that reads as these parameters, whose blocks are among R. -/
structure PR (w : World) (R : Nat → Prop) (l : List Pa) (v : Value) : Prop where
  ex : ∃ A c, v = .slice A l.length c ∧ l.length ≤ 9223372036854775807 ∧ ∀ i p, l[i]? = some p → ∃ b o, A = some ⟨b, o, none⟩ ∧ R b ∧ OkP p ∧ PCells w b (o + i * 2) p
structure FR (w : World) (R : Nat → Prop) (l : List Fn) (v : Value) : Prop where
  ex : ∃ A c, v = .slice A l.length c ∧ l.length ≤ 9223372036854775807 ∧ ∀ i f, l[i]? = some f → ∃ b o vp vb, A = some ⟨b, o, none⟩ ∧ R b ∧ OkF f ∧ FCells w b (o + i * 5) f vp vb ∧ PR w R f.params vp ∧ SR w R f.body vb
abbrev PIn (w : World) (M : Nat) (l : List Pa) (v : Value) : Prop := PR w (fun b => b < M) l v
abbrev FIn (w : World) (M : Nat) (l : List Fn) (v : Value) : Prop := FR w (fun b => b < M) l v
theorem PR.keep {w w' : World} {R R' : Nat → Prop} {l : List Pa} {v : Value} (h : PR w R l v) (hR : ∀ b, R b → R' b) (hk : ∀ b i, R b → w'.cell? ⟨b, i, none⟩ = w.cell? ⟨b, i, none⟩) : PR w' R' l v := by
  obtain ⟨A, c, h1, h2, h3⟩ := h.ex
  refine ⟨A, c, h1, h2, fun i p hi => ?_⟩
  obtain ⟨b, o, g1, g2, g3, g4, g5⟩ := h3 i p hi
  exact ⟨b, o, g1, hR b g2, g3, (hk b _ g2).trans g4, (hk b _ g2).trans g5⟩
theorem FR.keep {w w' : World} {R R' : Nat → Prop} {l : List Fn} {v : Value} (h : FR w R l v) (hR : ∀ b, R b → R' b) (hk : ∀ b i, R b → w'.cell? ⟨b, i, none⟩ = w.cell? ⟨b, i, none⟩) : FR w' R' l v := by
  obtain ⟨A, c, h1, h2, h3⟩ := h.ex
  refine ⟨A, c, h1, h2, fun i f hi => ?_⟩
  obtain ⟨b, o, vp, vb, g1, g2, g3, ⟨c0, c1, c2, c3, c4⟩, g5, g6⟩ := h3 i f hi
  exact ⟨b, o, vp, vb, g1, hR b g2, g3, ⟨(hk b _ g2).trans c0, (hk b _ g2).trans c1, (hk b _ g2).trans c2, (hk b _ g2).trans c3, (hk b _ g2).trans c4⟩, g5.keep hR hk, g6.keep hR hk⟩
theorem PR.up {w w' : World} {l : List Pa} {v : Value} (h : PIn w w.heap.size l v) (hb : Below w.heap.size w w') : PIn w' w'.heap.size l v := h.keep (fun _ hl => Nat.lt_of_lt_of_le hl hb.size) fun b i hl => hb.cell (p := ⟨b, i, none⟩) hl
theorem FR.up {w w' : World} {l : List Fn} {v : Value} (h : FIn w w.heap.size l v) (hb : Below w.heap.size w w') : FIn w' w'.heap.size l v := h.keep (fun _ hl => Nat.lt_of_lt_of_le hl hb.size) fun b i hl => hb.cell (p := ⟨b, i, none⟩) hl
theorem PR.slice {w : World} {R : Nat → Prop} {l : List Pa} {v : Value} (h : PR w R l v) : ∃ A c, v = .slice A l.length c := by obtain ⟨A, c, h, _⟩ := h.ex; exact ⟨A, c, h⟩
theorem FR.slice {w : World} {R : Nat → Prop} {l : List Fn} {v : Value} (h : FR w R l v) : ∃ A c, v = .slice A l.length c := by obtain ⟨A, c, h, _⟩ := h.ex; exact ⟨A, c, h⟩
theorem PR.le {w : World} {R : Nat → Prop} {l : List Pa} {v : Value} (h : PR w R l v) : l.length ≤ 9223372036854775807 := by obtain ⟨A, c, _, h, _⟩ := h.ex; exact h
theorem FR.le {w : World} {R : Nat → Prop} {l : List Fn} {v : Value} (h : FR w R l v) : l.length ≤ 9223372036854775807 := by obtain ⟨A, c, _, h, _⟩ := h.ex; exact h
theorem PR.at_ {w : World} {R : Nat → Prop} {l : List Pa} {A : Option Addr} {n c : Nat} (h : PR w R l (.slice A n c)) : ∀ i (hi : i < l.length), ∃ b o, A = some ⟨b, o, none⟩ ∧ R b ∧ OkP l[i] ∧ PCells w b (o + i * 2) l[i] := by
  obtain ⟨A', c', h1, h2, h3⟩ := h.ex
  cases h1
  exact fun i hi => h3 i _ (List.getElem?_eq_getElem hi)
theorem FR.at_ {w : World} {R : Nat → Prop} {l : List Fn} {A : Option Addr} {n c : Nat} (h : FR w R l (.slice A n c)) : ∀ i (hi : i < l.length), ∃ b o vp vb, A = some ⟨b, o, none⟩ ∧ R b ∧ OkF l[i] ∧ FCells w b (o + i * 5) l[i] vp vb ∧ PR w R l[i].params vp ∧ SR w R l[i].body vb := by
  obtain ⟨A', c', h1, h2, h3⟩ := h.ex
  cases h1
  exact fun i hi => h3 i _ (List.getElem?_eq_getElem hi)
theorem PCells.keep {w w' : World} {b o : Nat} {p : Pa} (h : PCells w b o p) (hk : ∀ i, w'.cell? ⟨b, i, none⟩ = w.cell? ⟨b, i, none⟩) : PCells w' b o p := ⟨(hk _).trans h.c0, (hk _).trans h.c1⟩
theorem FCells.keep {w w' : World} {b o : Nat} {f : Fn} {vp vb : Value} (h : FCells w b o f vp vb) (hk : ∀ i, w'.cell? ⟨b, i, none⟩ = w.cell? ⟨b, i, none⟩) : FCells w' b o f vp vb :=
  ⟨(hk _).trans h.c0, (hk _).trans h.c1, (hk _).trans h.c2, (hk _).trans h.c3, (hk _).trans h.c4⟩
structure FBox (w : World) (b : Nat) (f : Fn) (vp vb : Value) : Prop where
  c0 : w.cell? ⟨b, 0, none⟩ = some (.string (B f.name))
  c1 : w.cell? ⟨b, 1, none⟩ = some vp
  c2 : w.cell? ⟨b, 2, none⟩ = some (.int .i64 f.result)
  c3 : w.cell? ⟨b, 3, none⟩ = some vb
  c4 : w.cell? ⟨b, 4, none⟩ = some (.int .i64 f.count)
theorem FBox.keep {w w' : World} {b M : Nat} {f : Fn} {vp vb : Value} (h : FBox w b f vp vb) (hb : Below M w w') (hl : b < M) : FBox w' b f vp vb := by
  obtain ⟨c0, c1, c2, c3, c4⟩ := h
  have k := fun i => hb.cell (p := ⟨b, i, none⟩) hl
  exact ⟨(k 0).trans c0, (k 1).trans c1, (k 2).trans c2, (k 3).trans c3, (k 4).trans c4⟩
theorem PR.al {w : World} {l : List Pa} {v : Value} (h : PIn w w.heap.size l v) (o : Obj) : PIn (w.alloc o) (w.alloc o).heap.size l v := h.up (bal w o)
theorem FR.al {w : World} {l : List Fn} {v : Value} (h : FIn w w.heap.size l v) (o : Obj) : FIn (w.alloc o) (w.alloc o).heap.size l v := h.up (bal w o)
end Go.Proofs.YtipepljmfgjbpaaGreatDoor.S3

namespace Go.Proofs.YtipepljmfgjbpaaGreatDoor.S3
open Go Go.RowKit

/-- What a clone is: empty, or a new row. -/
def CloneR (w : World) (T : TypeId) (sz : Nat) (rows : List (List Value)) (e : Ending) (w' : World) : Prop :=
  Below w.heap.size w w' ∧ ((rows = [] ∧ ∃ A c, e = .returned (.slice A 0 c)) ∨ ∃ g cap, e = .returned (.slice (some ⟨g, 0, none⟩) rows.length cap) ∧ w.heap.size ≤ g ∧ RowAt w' g T sz cap rows)
theorem CloneR.of_own {w w1 : World} {T : TypeId} {sz : Nat} {rows : List (List Value)} {v : Value} (hlen : ∀ r ∈ rows, r.length = sz) (h : w1.ownsRow w.heap.size T sz v rows.length rows.flatten) (hb : Below w.heap.size w w1) : CloneR w T sz rows (.returned v) w1 := by
  refine ⟨hb, ?_⟩
  rcases rows with _ | ⟨r, rows⟩
  · rcases h.2 with ⟨rfl, _⟩ | ⟨g, cap, cur, rfl, _⟩
    · exact .inl ⟨rfl, _, _, rfl⟩
    · exact .inl ⟨rfl, _, _, rfl⟩
  · obtain ⟨g, cap, rfl, hg, hr⟩ := RowAt.of_own h hlen (by simp)
    exact .inr ⟨g, cap, rfl, hg, hr⟩

theorem infoE : (Tryz.prog.info? 67).map (fun i => (i.zero, i.size, i.bytes)) = some (some (.agg #[.int .i64 0, .int .i64 0, .int .i64 0, .string ⟨#[]⟩, .slice none 0 0]), 5, 64) := by kernel_rfl
theorem infoS : (Tryz.prog.info? 27).map (fun i => (i.zero, i.size, i.bytes)) = some (some (.agg #[.int .i64 0, .int .i64 0, .string ⟨#[]⟩, .int .i64 0, .string ⟨#[]⟩, .slice none 0 0, .slice none 0 0, .slice none 0 0]), 8, 128) := by kernel_rfl
end Go.Proofs.YtipepljmfgjbpaaGreatDoor.S3

namespace Go.Proofs.YtipepljmfgjbpaaGreatDoor.S3
open Go Go.RowKit

theorem rows_read {w : World} {b o sz : Nat} {rows : List (List Value)} (hsz : 0 < sz) (hlen : ∀ r ∈ rows, r.length = sz) (h : ∀ i r j u, rows[i]? = some r → r[j]? = some u → w.cell? ⟨b, o + i * sz + j, none⟩ = some u) : ∀ k u, rows.flatten[k]? = some u → w.cell? ⟨b, o + k, none⟩ = some u := by
  intro k u hk
  have hm : k % sz < sz := Nat.mod_lt _ hsz
  have e : k / sz * sz + k % sz = k := by rw [Nat.mul_comm]; exact Nat.div_add_mod k sz
  have := flat_get hlen (k / sz) (k % sz) hm
  rw [e, hk] at this
  cases hr : rows[k / sz]? with
  | none => rw [hr] at this; cases this
  | some r =>
    rw [hr, Option.bind_some] at this
    have h2 := h (k / sz) r (k % sz) u hr this.symm
    rwa [Nat.add_assoc, e] at h2
theorem flat_one {rows : List (List Value)} (h : ∀ r ∈ rows, ∀ u ∈ r, u.oneCell' = true) : ∀ u ∈ rows.flatten, u.oneCell' = true := by
  intro u hu
  obtain ⟨r, hr, hu⟩ := List.mem_flatten.1 hu
  exact h r hr u hu

/-! ### expressions -/
def eC (e : Ex) (v : Value) : List Value := [.int .i64 e.kind, .int .i64 e.op, .int .i64 e.num, .string (B e.name), v]
def rowsE (l : List Ex) (V : Nat → Value) : List (List Value) := l.mapIdx fun i e => eC e (V i)
theorem rowsE_get {l : List Ex} {V : Nat → Value} {i : Nat} {e : Ex} (h : l[i]? = some e) : (rowsE l V)[i]? = some (eC e (V i)) := by simp [rowsE, h]
theorem ER.cells {w : World} {R : Nat → Prop} {l : List Ex} {A : Option Addr} {n c : Nat} (h : ER w R l (.slice A n c)) : ∃ V : Nat → Value, (∀ i e, l[i]? = some e → OkE e ∧ ER w R e.args (V i) ∧ ∃ b o, A = some ⟨b, o, none⟩ ∧ R b ∧ ECells w b (o + i * 5) e (V i)) := by
  cases h with
  | mk _ _ _ V hlen hc hs =>
    refine ⟨V, fun i e hi => ?_⟩
    obtain ⟨b, o, h1, h2, h3, h4⟩ := hc i e hi
    exact ⟨h3, hs i e hi, b, o, h1, h2, h4⟩
theorem ER.of_row {w : World} {g cap : Nat} {R : Nat → Prop} {l : List Ex} {V : Nat → Value} (hr : RowAt w g 67 5 cap (rowsE l V)) (hg : R g) (hl : l.length ≤ 9223372036854775807) (ho : ∀ (i : Nat) e, l[i]? = some e → OkE e) (hs : ∀ i e, l[i]? = some e → ER w R e.args (V i)) : ER w R l (.slice (some ⟨g, 0, none⟩) l.length cap) := by
  refine .mk l _ cap V hl (fun i e hi => ?_) hs
  have hrow := rowsE_get (V := V) hi
  have c := fun j u hj => hr.cell (j := j) (u := u) hrow hj
  refine ⟨g, 0, rfl, hg, ho i e hi, ?_⟩
  rw [Nat.zero_add]
  exact ⟨c 0 _ rfl, c 1 _ rfl, c 2 _ rfl, c 3 _ rfl, c 4 _ rfl⟩
theorem ER.nil {w : World} {R : Nat → Prop} (A : Option Addr) (c : Nat) : ER w R [] (.slice A 0 c) := .mk [] A c (fun _ => .bool false) (by simp) (fun i e hi => by simp at hi) (fun i e hi => by simp at hi)

/-! ### statements -/
def sC (s : St) (va vb ve : Value) : List Value := [.int .i64 s.kind, .int .i64 s.no, .string (B s.name), .int .i64 s.typ, .string (B s.callee), va, vb, ve]
def rowsS (l : List St) (V : Nat → Value × Value × Value) : List (List Value) := l.mapIdx fun i s => sC s (V i).1 (V i).2.1 (V i).2.2
theorem rowsS_get {l : List St} {V : Nat → Value × Value × Value} {i : Nat} {s : St} (h : l[i]? = some s) : (rowsS l V)[i]? = some (sC s (V i).1 (V i).2.1 (V i).2.2) := by simp [rowsS, h]
theorem SR.cells {w : World} {R : Nat → Prop} {l : List St} {A : Option Addr} {n c : Nat} (h : SR w R l (.slice A n c)) : ∃ V : Nat → Value × Value × Value, (∀ i s, l[i]? = some s → OkS s ∧ ER w R s.args (V i).1 ∧ SR w R s.body (V i).2.1 ∧ SR w R s.els (V i).2.2 ∧ ∃ b o, A = some ⟨b, o, none⟩ ∧ R b ∧ SCells w b (o + i * 8) s (V i).1 (V i).2.1 (V i).2.2) := by
  cases h with
  | mk _ _ _ Va Vb Ve hlen hc ha hb he =>
    refine ⟨fun i => (Va i, Vb i, Ve i), fun i s hi => ?_⟩
    obtain ⟨b, o, h1, h2, h3, h4⟩ := hc i s hi
    exact ⟨h3, ha i s hi, hb i s hi, he i s hi, b, o, h1, h2, h4⟩
theorem SR.of_row {w : World} {g cap : Nat} {R : Nat → Prop} {l : List St} {V : Nat → Value × Value × Value} (hr : RowAt w g 27 8 cap (rowsS l V)) (hg : R g) (hl : l.length ≤ 9223372036854775807) (ho : ∀ (i : Nat) s, l[i]? = some s → OkS s)
    (ha : ∀ i s, l[i]? = some s → ER w R s.args (V i).1) (hb : ∀ i s, l[i]? = some s → SR w R s.body (V i).2.1) (he : ∀ i s, l[i]? = some s → SR w R s.els (V i).2.2) : SR w R l (.slice (some ⟨g, 0, none⟩) l.length cap) := by
  refine .mk l _ cap (fun i => (V i).1) (fun i => (V i).2.1) (fun i => (V i).2.2) hl (fun i e hi => ?_) ha hb he
  have hrow := rowsS_get (V := V) hi
  have c := fun j u hj => hr.cell (j := j) (u := u) hrow hj
  refine ⟨g, 0, rfl, hg, ho i e hi, ?_⟩
  rw [Nat.zero_add]
  exact ⟨c 0 _ rfl, c 1 _ rfl, c 2 _ rfl, c 3 _ rfl, c 4 _ rfl, c 5 _ rfl, c 6 _ rfl, c 7 _ rfl⟩
theorem SR.nil {w : World} {R : Nat → Prop} (A : Option Addr) (c : Nat) : SR w R [] (.slice A 0 c) := .mk [] A c (fun _ => .bool false) (fun _ => .bool false) (fun _ => .bool false) (by simp) (fun i e hi => by simp at hi) (fun i e hi => by simp at hi) (fun i e hi => by simp at hi) (fun i e hi => by simp at hi)

/-! ### parameters, functions -/
theorem PR.nil {w : World} {R : Nat → Prop} (A : Option Addr) (c : Nat) : PR w R [] (.slice A 0 c) := ⟨A, c, rfl, by simp, fun i p hi => by simp at hi⟩
theorem FR.cells {w : World} {R : Nat → Prop} {l : List Fn} {A : Option Addr} {n c : Nat} (h : FR w R l (.slice A n c)) : ∃ V : Nat → Value × Value, (∀ i f, l[i]? = some f → OkF f ∧ PR w R f.params (V i).1 ∧ SR w R f.body (V i).2 ∧ ∃ b o, A = some ⟨b, o, none⟩ ∧ R b ∧ FCells w b (o + i * 5) f (V i).1 (V i).2) := by
  obtain ⟨A', c', h1, h2, h3⟩ := h.ex
  cases h1
  have : ∀ i : Nat, ∃ x : Value × Value, ∀ f, l[i]? = some f → OkF f ∧ PR w R f.params x.1 ∧ SR w R f.body x.2 ∧ ∃ b o, A = some ⟨b, o, none⟩ ∧ R b ∧ FCells w b (o + i * 5) f x.1 x.2 := by
    intro i
    cases hi : l[i]? with
    | none => exact ⟨(.bool false, .bool false), fun f hf => by cases hf⟩
    | some f =>
      obtain ⟨b, o, vp, vb, g1, g2, g3, g4, g5, g6⟩ := h3 i f hi
      exact ⟨(vp, vb), fun f' hf => by cases hf; exact ⟨g3, g5, g6, b, o, g1, g2, g4⟩⟩
  exact ⟨fun i => Classical.choose (this i), fun i => Classical.choose_spec (this i)⟩
theorem FR.nil {w : World} {R : Nat → Prop} (A : Option Addr) (c : Nat) : FR w R [] (.slice A 0 c) := ⟨A, c, rfl, by simp, fun i p hi => by simp at hi⟩

/-! ### clones of lists in memory -/
end Go.Proofs.YtipepljmfgjbpaaGreatDoor.S3
