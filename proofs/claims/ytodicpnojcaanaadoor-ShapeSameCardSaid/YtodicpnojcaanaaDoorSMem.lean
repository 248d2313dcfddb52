/-
  Parameters and functions in memory.
-/
import Derived.Test.YtodicpnojcaanaaDoorSBlk
namespace Go.Proofs.YtodicpnojcaanaaDoor
open Go Go.RowKit

structure OkP (p : Pa) : Prop where
  name : p.name.length ≤ 9223372036854775807
  typ : okI p.typ
structure OkF (f : Fn) : Prop where
  name : f.name.length ≤ 9223372036854775807
  result : okI f.result
  count : okI f.count
structure PCells (w : World) (b o : Nat) (p : Pa) : Prop where
  c0 : w.cell? ⟨b, o, none⟩ = some (.string (B p.name))
  c1 : w.cell? ⟨b, o + 1, none⟩ = some (.int .i64 p.typ)
structure FCells (w : World) (b o : Nat) (f : Fn) (vp vb : Value) : Prop where
  c0 : w.cell? ⟨b, o, none⟩ = some (.string (B f.name))
  c1 : w.cell? ⟨b, o + 1, none⟩ = some vp
  c2 : w.cell? ⟨b, o + 2, none⟩ = some (.int .i64 f.result)
  c3 : w.cell? ⟨b, o + 3, none⟩ = some vb
  c4 : w.cell? ⟨b, o + 4, none⟩ = some (.int .i64 f.count)
/-- A slice value that reads as these parameters, whose blocks are among R. -/
structure PR (w : World) (R : Nat → Prop) (l : List Pa) (v : Value) : Prop where
  ex : ∃ A c, v = .slice A l.length c ∧ l.length ≤ 9223372036854775807 ∧ ∀ i p, l[i]? = some p → ∃ b o, A = some ⟨b, o, none⟩ ∧ R b ∧ OkP p ∧ PCells w b (o + i * 2) p
structure FR (w : World) (R : Nat → Prop) (l : List Fn) (v : Value) : Prop where
  ex : ∃ A c, v = .slice A l.length c ∧ l.length ≤ 9223372036854775807 ∧ ∀ i f, l[i]? = some f → ∃ b o vp vb, A = some ⟨b, o, none⟩ ∧ R b ∧ OkF f ∧ FCells w b (o + i * 5) f vp vb ∧ PR w R f.params vp ∧ SR w R f.body vb
abbrev PIn (w : World) (M : Nat) (l : List Pa) (v : Value) : Prop := PR w (fun b => b < M) l v
abbrev FIn (w : World) (M : Nat) (l : List Fn) (v : Value) : Prop := FR w (fun b => b < M) l v
theorem PR.keep {w w' : World} {R R' : Nat → Prop} {l : List Pa} {v : Value} (h : PR w R l v) (hR : ∀ b, R b → R' b) (hk : ∀ b i, R b → w'.cell? ⟨b, i, none⟩ = w.cell? ⟨b, i, none⟩) : PR w' R' l v := by
  obtain ⟨A, c, h1, h2, h3⟩ := h.ex
  refine ⟨A, c, h1, h2, fun i p hi => ?_⟩
  obtain ⟨b, o, g1, g2, g3, g4, g5⟩ := h3 i p hi
  exact ⟨b, o, g1, hR b g2, g3, (hk b _ g2).trans g4, (hk b _ g2).trans g5⟩
theorem FR.keep {w w' : World} {R R' : Nat → Prop} {l : List Fn} {v : Value} (h : FR w R l v) (hR : ∀ b, R b → R' b) (hk : ∀ b i, R b → w'.cell? ⟨b, i, none⟩ = w.cell? ⟨b, i, none⟩) : FR w' R' l v := by
  obtain ⟨A, c, h1, h2, h3⟩ := h.ex
  refine ⟨A, c, h1, h2, fun i f hi => ?_⟩
  obtain ⟨b, o, vp, vb, g1, g2, g3, ⟨c0, c1, c2, c3, c4⟩, g5, g6⟩ := h3 i f hi
  exact ⟨b, o, vp, vb, g1, hR b g2, g3, ⟨(hk b _ g2).trans c0, (hk b _ g2).trans c1, (hk b _ g2).trans c2, (hk b _ g2).trans c3, (hk b _ g2).trans c4⟩, g5.keep hR hk, g6.keep hR hk⟩
theorem PR.up {w w' : World} {l : List Pa} {v : Value} (h : PIn w w.heap.size l v) (hb : Below w.heap.size w w') : PIn w' w'.heap.size l v := h.keep (fun _ hl => Nat.lt_of_lt_of_le hl hb.size) fun b i hl => hb.cell (p := ⟨b, i, none⟩) hl
theorem FR.up {w w' : World} {l : List Fn} {v : Value} (h : FIn w w.heap.size l v) (hb : Below w.heap.size w w') : FIn w' w'.heap.size l v := h.keep (fun _ hl => Nat.lt_of_lt_of_le hl hb.size) fun b i hl => hb.cell (p := ⟨b, i, none⟩) hl
theorem PR.slice {w : World} {R : Nat → Prop} {l : List Pa} {v : Value} (h : PR w R l v) : ∃ A c, v = .slice A l.length c := by obtain ⟨A, c, h, _⟩ := h.ex; exact ⟨A, c, h⟩
theorem FR.slice {w : World} {R : Nat → Prop} {l : List Fn} {v : Value} (h : FR w R l v) : ∃ A c, v = .slice A l.length c := by obtain ⟨A, c, h, _⟩ := h.ex; exact ⟨A, c, h⟩
theorem PR.le {w : World} {R : Nat → Prop} {l : List Pa} {v : Value} (h : PR w R l v) : l.length ≤ 9223372036854775807 := by obtain ⟨A, c, _, h, _⟩ := h.ex; exact h
theorem FR.le {w : World} {R : Nat → Prop} {l : List Fn} {v : Value} (h : FR w R l v) : l.length ≤ 9223372036854775807 := by obtain ⟨A, c, _, h, _⟩ := h.ex; exact h
theorem PR.at_ {w : World} {R : Nat → Prop} {l : List Pa} {A : Option Addr} {n c : Nat} (h : PR w R l (.slice A n c)) : ∀ i (hi : i < l.length), ∃ b o, A = some ⟨b, o, none⟩ ∧ R b ∧ OkP l[i] ∧ PCells w b (o + i * 2) l[i] := by
  obtain ⟨A', c', h1, h2, h3⟩ := h.ex
  cases h1
  exact fun i hi => h3 i _ (List.getElem?_eq_getElem hi)
theorem FR.at_ {w : World} {R : Nat → Prop} {l : List Fn} {A : Option Addr} {n c : Nat} (h : FR w R l (.slice A n c)) : ∀ i (hi : i < l.length), ∃ b o vp vb, A = some ⟨b, o, none⟩ ∧ R b ∧ OkF l[i] ∧ FCells w b (o + i * 5) l[i] vp vb ∧ PR w R l[i].params vp ∧ SR w R l[i].body vb := by
  obtain ⟨A', c', h1, h2, h3⟩ := h.ex
  cases h1
  exact fun i hi => h3 i _ (List.getElem?_eq_getElem hi)
theorem PCells.keep {w w' : World} {b o : Nat} {p : Pa} (h : PCells w b o p) (hk : ∀ i, w'.cell? ⟨b, i, none⟩ = w.cell? ⟨b, i, none⟩) : PCells w' b o p := ⟨(hk _).trans h.c0, (hk _).trans h.c1⟩
theorem FCells.keep {w w' : World} {b o : Nat} {f : Fn} {vp vb : Value} (h : FCells w b o f vp vb) (hk : ∀ i, w'.cell? ⟨b, i, none⟩ = w.cell? ⟨b, i, none⟩) : FCells w' b o f vp vb :=
  ⟨(hk _).trans h.c0, (hk _).trans h.c1, (hk _).trans h.c2, (hk _).trans h.c3, (hk _).trans h.c4⟩
/-- A function by value, and its box. -/
abbrev fV (f : Fn) (vp vb : Value) : Value := .agg #[.string (B f.name), vp, .int .i64 f.result, vb, .int .i64 f.count]
abbrev fO (f : Fn) (vp vb : Value) : Obj := .cells #[.string (B f.name), vp, .int .i64 f.result, vb, .int .i64 f.count] 43
structure FBox (w : World) (b : Nat) (f : Fn) (vp vb : Value) : Prop where
  c0 : w.cell? ⟨b, 0, none⟩ = some (.string (B f.name))
  c1 : w.cell? ⟨b, 1, none⟩ = some vp
  c2 : w.cell? ⟨b, 2, none⟩ = some (.int .i64 f.result)
  c3 : w.cell? ⟨b, 3, none⟩ = some vb
  c4 : w.cell? ⟨b, 4, none⟩ = some (.int .i64 f.count)
theorem FBox.new (w : World) (f : Fn) (vp vb : Value) : FBox (w.alloc (fO f vp vb)) w.heap.size f vp vb :=
  ⟨newCell w _ _ 0 _ rfl, newCell w _ _ 1 _ rfl, newCell w _ _ 2 _ rfl, newCell w _ _ 3 _ rfl, newCell w _ _ 4 _ rfl⟩
theorem FBox.keep {w w' : World} {b M : Nat} {f : Fn} {vp vb : Value} (h : FBox w b f vp vb) (hb : Below M w w') (hl : b < M) : FBox w' b f vp vb := by
  obtain ⟨c0, c1, c2, c3, c4⟩ := h
  have k := fun i => hb.cell (p := ⟨b, i, none⟩) hl
  exact ⟨(k 0).trans c0, (k 1).trans c1, (k 2).trans c2, (k 3).trans c3, (k 4).trans c4⟩
theorem PR.al {w : World} {l : List Pa} {v : Value} (h : PIn w w.heap.size l v) (o : Obj) : PIn (w.alloc o) (w.alloc o).heap.size l v := h.up (bal w o)
theorem FR.al {w : World} {l : List Fn} {v : Value} (h : FIn w w.heap.size l v) (o : Obj) : FIn (w.alloc o) (w.alloc o).heap.size l v := h.up (bal w o)
end Go.Proofs.YtodicpnojcaanaaDoor
