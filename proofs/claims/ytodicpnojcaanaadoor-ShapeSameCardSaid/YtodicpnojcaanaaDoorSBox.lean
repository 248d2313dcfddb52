/-
  Boxed expressions and statements.
-/
import Derived.Test.YtodicpnojcaanaaDoorSBase
namespace Go.Proofs.YtodicpnojcaanaaDoor
open Go Go.RowKit

theorem newCell (W : World) (vs : Array Value) (T : TypeId) (i : Nat) (v : Value) (h : vs[i]? = some v) : (W.alloc (.cells vs T)).cell? ⟨W.heap.size, i, none⟩ = some v := (cell_of_row _ _ i _ _ _ (heap_alloc_new W _)).trans h
/-- Block b is an expression's box. -/
structure EBox (w : World) (b : Nat) (e : Ex) (v : Value) : Prop where
  c0 : w.cell? ⟨b, 0, none⟩ = some (.int .i64 e.kind)
  c1 : w.cell? ⟨b, 1, none⟩ = some (.int .i64 e.op)
  c2 : w.cell? ⟨b, 2, none⟩ = some (.int .i64 e.num)
  c3 : w.cell? ⟨b, 3, none⟩ = some (.string (B e.name))
  c4 : w.cell? ⟨b, 4, none⟩ = some v
structure SBox (w : World) (b : Nat) (s : St) (va vb ve : Value) : Prop where
  c0 : w.cell? ⟨b, 0, none⟩ = some (.int .i64 s.kind)
  c1 : w.cell? ⟨b, 1, none⟩ = some (.int .i64 s.no)
  c2 : w.cell? ⟨b, 2, none⟩ = some (.string (B s.name))
  c3 : w.cell? ⟨b, 3, none⟩ = some (.int .i64 s.typ)
  c4 : w.cell? ⟨b, 4, none⟩ = some (.string (B s.callee))
  c5 : w.cell? ⟨b, 5, none⟩ = some va
  c6 : w.cell? ⟨b, 6, none⟩ = some vb
  c7 : w.cell? ⟨b, 7, none⟩ = some ve
abbrev eO (e : Ex) (v : Value) : Obj := .cells #[.int .i64 e.kind, .int .i64 e.op, .int .i64 e.num, .string (B e.name), v] 24
abbrev sO (s : St) (va vb ve : Value) : Obj := .cells #[.int .i64 s.kind, .int .i64 s.no, .string (B s.name), .int .i64 s.typ, .string (B s.callee), va, vb, ve] 46
theorem EBox.new (w : World) (e : Ex) (v : Value) : EBox (w.alloc (eO e v)) w.heap.size e v :=
  ⟨newCell w _ _ 0 _ rfl, newCell w _ _ 1 _ rfl, newCell w _ _ 2 _ rfl, newCell w _ _ 3 _ rfl, newCell w _ _ 4 _ rfl⟩
theorem SBox.new (w : World) (s : St) (va vb ve : Value) : SBox (w.alloc (sO s va vb ve)) w.heap.size s va vb ve :=
  ⟨newCell w _ _ 0 _ rfl, newCell w _ _ 1 _ rfl, newCell w _ _ 2 _ rfl, newCell w _ _ 3 _ rfl, newCell w _ _ 4 _ rfl, newCell w _ _ 5 _ rfl, newCell w _ _ 6 _ rfl, newCell w _ _ 7 _ rfl⟩
theorem EBox.keep {w w' : World} {b M : Nat} {e : Ex} {v : Value} (h : EBox w b e v) (hb : Below M w w') (hl : b < M) : EBox w' b e v := by
  obtain ⟨c0, c1, c2, c3, c4⟩ := h
  have k := fun i => hb.cell (p := ⟨b, i, none⟩) hl
  exact ⟨(k 0).trans c0, (k 1).trans c1, (k 2).trans c2, (k 3).trans c3, (k 4).trans c4⟩
theorem SBox.keep {w w' : World} {b M : Nat} {s : St} {va vb ve : Value} (h : SBox w b s va vb ve) (hb : Below M w w') (hl : b < M) : SBox w' b s va vb ve := by
  obtain ⟨c0, c1, c2, c3, c4, c5, c6, c7⟩ := h
  have k := fun i => hb.cell (p := ⟨b, i, none⟩) hl
  exact ⟨(k 0).trans c0, (k 1).trans c1, (k 2).trans c2, (k 3).trans c3, (k 4).trans c4, (k 5).trans c5, (k 6).trans c6, (k 7).trans c7⟩
theorem bal (w : World) (o : Obj) : Below w.heap.size w (w.alloc o) := (Below.refl _ w).alloc (Nat.le_refl _) _
theorem bal2 (w : World) (o1 o2 : Obj) : Below w.heap.size w ((w.alloc o1).alloc o2) := ((Below.refl _ w).alloc (Nat.le_refl _) _).alloc (by simp) _
theorem sz1 (w : World) (o : Obj) : (w.alloc o).heap.size = w.heap.size + 1 := by simp
theorem EIn.al {w : World} {l : List Ex} {v : Value} (h : EIn w w.heap.size l v) (o : Obj) : EIn (w.alloc o) (w.alloc o).heap.size l v := h.up (bal w o)
theorem SIn.al {w : World} {l : List St} {v : Value} (h : SIn w w.heap.size l v) (o : Obj) : SIn (w.alloc o) (w.alloc o).heap.size l v := h.up (bal w o)
end Go.Proofs.YtodicpnojcaanaaDoor
