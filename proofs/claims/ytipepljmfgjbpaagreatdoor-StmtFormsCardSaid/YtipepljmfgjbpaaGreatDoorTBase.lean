/-
  Statements in memory; a block that holds a result of eight cells; the stmt reader's state. What Take gives.
-/
import Derived.Test.YtipepljmfgjbpaaGreatDoorERead2
import Derived.Test.YtipepljmfgjbpaaGreatDoorTMath
import Derived.Test.YtipepljmfgjbpaaGreatDoorSGrow
namespace Go.Proofs.YtipepljmfgjbpaaGreatDoor.E6
open Go Go.RowKit Go.Proofs.YtipepljmfgjbpaaGreatDoor Go.Proofs.YtipepljmfgjbpaaGreatDoor.E5

/-- The words of the types. -/
def wordRow : Array Value := #[.string ⟨#[]⟩, .string ⟨#[105, 110, 116]⟩, .string ⟨#[98, 111, 111, 108]⟩, .string ⟨#[97, 114, 114, 97, 121]⟩]
structure GlobW (w : World) : Prop where
  row : w.rangeAt 0 0 wordRow.toList
  lt : 0 < w.heap.size
theorem GlobW.bel {w w' : World} {M : Nat} (h : GlobW w) (hM : 6 < M) (hb : Below M w w') : GlobW w' :=
  ⟨fun j v hv => (hb.cell (p := ⟨0, _, none⟩) (by show 0 < M; omega)).trans (h.row j v hv), Nat.lt_of_lt_of_le h.lt hb.size⟩
theorem GlobW.up {w w' : World} (h : GlobW w) (hb : Below w.heap.size w w') : GlobW w' :=
  ⟨fun j v hv => (hb.cell (p := ⟨0, _, none⟩) h.lt).trans (h.row j v hv), Nat.lt_of_lt_of_le h.lt hb.size⟩
/-- The reader, and the words. -/
structure Sd (w : World) (l : TL) (v : Value) (b : RB) (i d : Nat) : Prop where
  rd : Rd w l v b i d
  gw : GlobW w
theorem Sd.mv {w w' : World} {l : TL} {v : Value} {b : RB} {i d j k : Nat} (h : Sd w l v b i d) (hr : Rd w' l v b j k) (hf : Fr b w w') : Sd w' l v b j k :=
  ⟨hr, h.gw.bel h.rd.cu.big (hf.bel (Nat.le_of_lt h.rd.cu.lt))⟩
theorem Sd.bel {w w' : World} {l : TL} {v : Value} {b : RB} {i d : Nat} (h : Sd w l v b i d) (hb : Below w.heap.size w w') : Sd w' l v b i d := ⟨h.rd.bel hb, h.gw.up hb⟩
theorem Sd.al {w : World} {l : TL} {v : Value} {b : RB} {i d : Nat} (h : Sd w l v b i d) (o : Obj) : Sd (w.alloc o) l v b i d := h.bel (S3.bal w o)

/-! ### lists of statements in new memory -/
theorem sr_fr {w w' : World} {b : RB} {n : Nat} {l : List St} {v : Value} (h : S3.SR w (Rn n w.heap.size) l v) (hb : b.r < n) (hf : Fr b w w') : S3.SR w' (Rn n w'.heap.size) l v :=
  h.keep (fun _ hx => ⟨hx.1, Nat.lt_of_lt_of_le hx.2 hf.size⟩) fun _ _ hx => hf.cell hx.2 (by have := hx.1; omega)
theorem sr_bel {w w' : World} {n : Nat} {l : List St} {v : Value} (h : S3.SR w (Rn n w.heap.size) l v) (hb : Below w.heap.size w w') : S3.SR w' (Rn n w'.heap.size) l v :=
  h.keep (fun _ hx => ⟨hx.1, Nat.lt_of_lt_of_le hx.2 hb.size⟩) fun _ _ hx => hb.cell hx.2
theorem sr_mono {w : World} {n n' m m' : Nat} {l : List St} {v : Value} (h : S3.SR w (Rn n m) l v) (hn : n' ≤ n) (hm : m ≤ m') : S3.SR w (Rn n' m') l v := h.keep (fun _ hx => ⟨Nat.le_trans hn hx.1, Nat.lt_of_lt_of_le hx.2 hm⟩) fun _ _ _ => rfl
theorem sr_nil (w : World) (R : Nat → Prop) : S3.SR w R [] (.slice none 0 0) := S3.SR.nil none 0
/-- A statement's parts, in blocks from n on, below m. -/
structure SIs (w : World) (R : Nat → Prop) (s : St) (va vb ve : Value) : Prop where
  ok : S3.OkS s
  a : S3.ER w R s.args va
  b : S3.SR w R s.body vb
  e : S3.SR w R s.els ve
theorem SIs.fr {w w' : World} {b : RB} {n : Nat} {s : St} {va vb ve : Value} (h : SIs w (Rn n w.heap.size) s va vb ve) (hb : b.r < n) (hf : Fr b w w') : SIs w' (Rn n w'.heap.size) s va vb ve :=
  ⟨h.ok, er_fr h.a hb hf, sr_fr h.b hb hf, sr_fr h.e hb hf⟩
theorem SIs.bel {w w' : World} {n : Nat} {s : St} {va vb ve : Value} (h : SIs w (Rn n w.heap.size) s va vb ve) (hb : Below w.heap.size w w') : SIs w' (Rn n w'.heap.size) s va vb ve :=
  ⟨h.ok, er_bel h.a hb, sr_bel h.b hb, sr_bel h.e hb⟩
theorem SIs.mono {w : World} {n n' m m' : Nat} {s : St} {va vb ve : Value} (h : SIs w (Rn n m) s va vb ve) (hn : n' ≤ n) (hm : m ≤ m') : SIs w (Rn n' m') s va vb ve :=
  ⟨h.ok, er_mono h.a hn hm, sr_mono h.b hn hm, sr_mono h.e hn hm⟩

/-- Block q holds eight cells, of a statement's type. -/
def R8 (w : World) (q : Nat) : Prop := ∃ a0 a1 a2 a3 a4 a5 a6 a7, w.heap[q]? = some (.cells #[a0, a1, a2, a3, a4, a5, a6, a7] 27 (0, 0))
theorem R8.lt {w : World} {q : Nat} (h : R8 w q) : q < w.heap.size := by
  obtain ⟨_, _, _, _, _, _, _, _, h⟩ := h
  rcases Nat.lt_or_ge q w.heap.size with h1 | h1
  · exact h1
  · rw [Array.getElem?_eq_none h1] at h; cases h
theorem R8.bel {w w' : World} {q : Nat} (h : R8 w q) (hb : Below w.heap.size w w') : R8 w' q := by
  have hl := h.lt
  obtain ⟨_, _, _, _, _, _, _, _, h⟩ := h
  exact ⟨_, _, _, _, _, _, _, _, (hb.block q hl).trans h⟩
theorem R8.fr {w w' : World} {b : RB} {q : Nat} (h : R8 w q) (hq : b.r < q) (hb : Fr b w w') : R8 w' q := by
  have hl := h.lt
  obtain ⟨_, _, _, _, _, _, _, _, h⟩ := h
  exact ⟨_, _, _, _, _, _, _, _, (hb.block q hl hq).trans h⟩
theorem R8.new (w : World) (a0 a1 a2 a3 a4 a5 a6 a7 : Value) : R8 (w.alloc (.cells #[a0, a1, a2, a3, a4, a5, a6, a7] 27)) w.heap.size := ⟨_, _, _, _, _, _, _, _, heap_alloc_new w _⟩
set_option maxHeartbeats 2000000 in
theorem R8.facts {w : World} {q : Nat} (h : R8 w q) : ∃ a0 a1 a2 a3 a4 a5 a6 a7, w.cell? ⟨q, 0, none⟩ = some a0 ∧ w.cell? ⟨q, 1, none⟩ = some a1 ∧ w.cell? ⟨q, 2, none⟩ = some a2 ∧ w.cell? ⟨q, 3, none⟩ = some a3 ∧ w.cell? ⟨q, 4, none⟩ = some a4 ∧ w.cell? ⟨q, 5, none⟩ = some a5 ∧ w.cell? ⟨q, 6, none⟩ = some a6 ∧ w.cell? ⟨q, 7, none⟩ = some a7 ∧
    w.frozen? ⟨q, 0, none⟩ = false ∧ w.frozen? ⟨q, 1, none⟩ = false ∧ w.frozen? ⟨q, 2, none⟩ = false ∧ w.frozen? ⟨q, 3, none⟩ = false ∧ w.frozen? ⟨q, 4, none⟩ = false ∧ w.frozen? ⟨q, 5, none⟩ = false ∧ w.frozen? ⟨q, 6, none⟩ = false ∧ w.frozen? ⟨q, 7, none⟩ = false := by
  obtain ⟨a0, a1, a2, a3, a4, a5, a6, a7, h⟩ := h
  refine ⟨a0, a1, a2, a3, a4, a5, a6, a7, (cell_of_row _ _ 0 _ _ _ h).trans rfl, (cell_of_row _ _ 1 _ _ _ h).trans rfl, (cell_of_row _ _ 2 _ _ _ h).trans rfl, (cell_of_row _ _ 3 _ _ _ h).trans rfl, (cell_of_row _ _ 4 _ _ _ h).trans rfl, (cell_of_row _ _ 5 _ _ _ h).trans rfl, (cell_of_row _ _ 6 _ _ _ h).trans rfl, (cell_of_row _ _ 7 _ _ _ h).trans rfl, ?_, ?_, ?_, ?_, ?_, ?_, ?_, ?_⟩ <;> unfold World.frozen? <;> rw [h] <;> rfl
set_option maxHeartbeats 2000000 in
theorem row8_facts {w : World} {q : Nat} {a0 a1 a2 a3 a4 a5 a6 a7 : Value} (h : w.heap[q]? = some (.cells #[a0, a1, a2, a3, a4, a5, a6, a7] 27 (0, 0))) : w.cell? ⟨q, 0, none⟩ = some a0 ∧ w.cell? ⟨q, 1, none⟩ = some a1 ∧ w.cell? ⟨q, 2, none⟩ = some a2 ∧ w.cell? ⟨q, 3, none⟩ = some a3 ∧ w.cell? ⟨q, 4, none⟩ = some a4 ∧ w.cell? ⟨q, 5, none⟩ = some a5 ∧ w.cell? ⟨q, 6, none⟩ = some a6 ∧ w.cell? ⟨q, 7, none⟩ = some a7 :=
  ⟨(cell_of_row _ _ 0 _ _ _ h).trans rfl, (cell_of_row _ _ 1 _ _ _ h).trans rfl, (cell_of_row _ _ 2 _ _ _ h).trans rfl, (cell_of_row _ _ 3 _ _ _ h).trans rfl, (cell_of_row _ _ 4 _ _ _ h).trans rfl, (cell_of_row _ _ 5 _ _ _ h).trans rfl, (cell_of_row _ _ 6 _ _ _ h).trans rfl, (cell_of_row _ _ 7 _ _ _ h).trans rfl⟩
abbrev put8 (w : World) (q : Nat) (a0 a1 a2 a3 a4 a5 a6 a7 : Value) : World := (((((((w.setCell ⟨q, 0, none⟩ a0).setCell ⟨q, 1, none⟩ a1).setCell ⟨q, 2, none⟩ a2).setCell ⟨q, 3, none⟩ a3).setCell ⟨q, 4, none⟩ a4).setCell ⟨q, 5, none⟩ a5).setCell ⟨q, 6, none⟩ a6).setCell ⟨q, 7, none⟩ a7
theorem put8_size (w : World) (q : Nat) (a0 a1 a2 a3 a4 a5 a6 a7 : Value) : (put8 w q a0 a1 a2 a3 a4 a5 a6 a7).heap.size = w.heap.size := by simp [World.setCell]
theorem put8_heap (w : World) (q : Nat) (a0 a1 a2 a3 a4 a5 a6 a7 : Value) (k : Nat) (hk : k ≠ q) : (put8 w q a0 a1 a2 a3 a4 a5 a6 a7).heap[k]? = w.heap[k]? := by
  unfold put8
  rw [Below.heap_setCell _ _ _ _ hk, Below.heap_setCell _ _ _ _ hk, Below.heap_setCell _ _ _ _ hk, Below.heap_setCell _ _ _ _ hk, Below.heap_setCell _ _ _ _ hk, Below.heap_setCell _ _ _ _ hk, Below.heap_setCell _ _ _ _ hk, Below.heap_setCell _ _ _ _ hk]
set_option maxHeartbeats 4000000 in
theorem put8_row {w : World} {q : Nat} (h : R8 w q) (a0 a1 a2 a3 a4 a5 a6 a7 : Value) : (put8 w q a0 a1 a2 a3 a4 a5 a6 a7).heap[q]? = some (.cells #[a0, a1, a2, a3, a4, a5, a6, a7] 27 (0, 0)) := by
  obtain ⟨x0, x1, x2, x3, x4, x5, x6, x7, h⟩ := h
  unfold put8
  simp only [World.setCell, Array.getElem?_modify, if_true, h]
  rfl
theorem put8_below {w w1 : World} (hb : Below w.heap.size w w1) {q : Nat} (hq : w.heap.size ≤ q) (a0 a1 a2 a3 a4 a5 a6 a7 : Value) : Below w.heap.size w (put8 w1 q a0 a1 a2 a3 a4 a5 a6 a7) :=
  ((((((((hb).setCell (p := ⟨q, 0, none⟩) hq _).setCell (p := ⟨q, 1, none⟩) hq _).setCell (p := ⟨q, 2, none⟩) hq _).setCell (p := ⟨q, 3, none⟩) hq _).setCell (p := ⟨q, 4, none⟩) hq _).setCell (p := ⟨q, 5, none⟩) hq _).setCell (p := ⟨q, 6, none⟩) hq _).setCell (p := ⟨q, 7, none⟩) hq _
theorem put8_rd {w : World} {l : TL} {v : Value} {b : RB} {i d q : Nat} (h : Rd w l v b i d) (hq : b.r < q) (a0 a1 a2 a3 a4 a5 a6 a7 : Value) : Rd (put8 w q a0 a1 a2 a3 a4 a5 a6 a7) l v b i d :=
  ((((((((h).other (p := ⟨q, 0, none⟩) hq _).other (p := ⟨q, 1, none⟩) hq _).other (p := ⟨q, 2, none⟩) hq _).other (p := ⟨q, 3, none⟩) hq _).other (p := ⟨q, 4, none⟩) hq _).other (p := ⟨q, 5, none⟩) hq _).other (p := ⟨q, 6, none⟩) hq _).other (p := ⟨q, 7, none⟩) hq _
theorem put8_fr {w w1 : World} {b : RB} {q : Nat} (h : Fr b w w1) (hq : w.heap.size ≤ q) (a0 a1 a2 a3 a4 a5 a6 a7 : Value) : Fr b w (put8 w1 q a0 a1 a2 a3 a4 a5 a6 a7) :=
  ((((((((h).setNew (p := ⟨q, 0, none⟩) hq _).setNew (p := ⟨q, 1, none⟩) hq _).setNew (p := ⟨q, 2, none⟩) hq _).setNew (p := ⟨q, 3, none⟩) hq _).setNew (p := ⟨q, 4, none⟩) hq _).setNew (p := ⟨q, 5, none⟩) hq _).setNew (p := ⟨q, 6, none⟩) hq _).setNew (p := ⟨q, 7, none⟩) hq _
theorem put8_cu {w : World} {l : TL} {v : Value} {c i q : Nat} (h : Cu w l v c i) (hq : c < q) (a0 a1 a2 a3 a4 a5 a6 a7 : Value) : Cu (put8 w q a0 a1 a2 a3 a4 a5 a6 a7) l v c i :=
  ((((((((h).other (p := ⟨q, 0, none⟩) hq _).other (p := ⟨q, 1, none⟩) hq _).other (p := ⟨q, 2, none⟩) hq _).other (p := ⟨q, 3, none⟩) hq _).other (p := ⟨q, 4, none⟩) hq _).other (p := ⟨q, 5, none⟩) hq _).other (p := ⟨q, 6, none⟩) hq _).other (p := ⟨q, 7, none⟩) hq _
theorem put8_frc {w w1 : World} {c q : Nat} (h : FrC c w w1) (hq : w.heap.size ≤ q) (a0 a1 a2 a3 a4 a5 a6 a7 : Value) : FrC c w (put8 w1 q a0 a1 a2 a3 a4 a5 a6 a7) :=
  ((((((((h).setNew (p := ⟨q, 0, none⟩) hq _).setNew (p := ⟨q, 1, none⟩) hq _).setNew (p := ⟨q, 2, none⟩) hq _).setNew (p := ⟨q, 3, none⟩) hq _).setNew (p := ⟨q, 4, none⟩) hq _).setNew (p := ⟨q, 5, none⟩) hq _).setNew (p := ⟨q, 6, none⟩) hq _).setNew (p := ⟨q, 7, none⟩) hq _
theorem put8_is {w : World} {n q : Nat} {s : St} {va vb ve : Value} (h : SIs w (Rn n w.heap.size) s va vb ve) (hq : q < n) (a0 a1 a2 a3 a4 a5 a6 a7 : Value) : SIs (put8 w q a0 a1 a2 a3 a4 a5 a6 a7) (Rn n (put8 w q a0 a1 a2 a3 a4 a5 a6 a7).heap.size) s va vb ve := by
  have k1 : ∀ x, Rn n w.heap.size x → Rn n (put8 w q a0 a1 a2 a3 a4 a5 a6 a7).heap.size x := fun _ hx => ⟨hx.1, by rw [put8_size]; exact hx.2⟩
  have k2 : ∀ x i, Rn n w.heap.size x → (put8 w q a0 a1 a2 a3 a4 a5 a6 a7).cell? ⟨x, i, none⟩ = w.cell? ⟨x, i, none⟩ := fun x _ hx => World.cell?_of_block (w := w) (put8_heap w q a0 a1 a2 a3 a4 a5 a6 a7 x (by have := hx.1; omega))
  exact ⟨h.ok, h.a.keep k1 k2, h.b.keep k1 k2, h.e.keep k1 k2⟩
/-- A statement's eight cells, stored. -/
abbrev putS (w : World) (q : Nat) (s : St) (va vb ve : Value) : World := put8 w q (.int .i64 s.kind) (.int .i64 s.no) (.string (S3.B s.name)) (.int .i64 s.typ) (.string (S3.B s.callee)) va vb ve
abbrev sZ : Obj := .cells #[.int .i64 0, .int .i64 0, .string ⟨#[]⟩, .int .i64 0, .string ⟨#[]⟩, .slice none 0 0, .slice none 0 0, .slice none 0 0] 27

/-- What is promised of a part of the reader that reads a statement. -/
def PostS (w : World) (l : TL) (v : Value) (b : RB) (d : Nat) : RS → Ending → World → Prop
  | .ok s n => fun E w' => ∃ va vb ve, E = .returned (S3.sV s va vb ve) ∧ SIs w' (Rn w.heap.size w'.heap.size) s va vb ve ∧ Rd w' l v b n d ∧ Fr b w w'
  | .bad a c => fun E w' => E = bad a c ∧ Fr b w w'
def PostB (w : World) (l : TL) (v : Value) (b : RB) (d : Nat) : RBl → Ending → World → Prop
  | .ok ss n => fun E w' => ∃ A c, E = .returned (.slice A ss.length c) ∧ S3.SR w' (Rn w.heap.size w'.heap.size) ss (.slice A ss.length c) ∧ Rd w' l v b n d ∧ Fr b w w'
  | .bad a c => fun E w' => E = bad a c ∧ Fr b w w'
/-- The end of a part: the statement that a call gave is laid into the result's variable. -/
theorem postS_end {w wc w1 : World} {l : TL} {v : Value} {b : RB} {d n q : Nat} {s : St} {va vb ve : Value} (hw : w.heap.size ≤ q) (hq : q < wc.heap.size) (hbq : b.r < q) (hf : Fr b w wc)
    (hE : SIs w1 (Rn wc.heap.size w1.heap.size) s va vb ve) (hR : Rd w1 l v b n d) (hf1 : Fr b wc w1) :
    PostS w l v b d (.ok s n) (.returned (S3.sV s va vb ve)) (putS w1 q s va vb ve) :=
  ⟨va, vb, ve, rfl, (put8_is hE hq _ _ _ _ _ _ _ _).mono (by omega) (Nat.le_refl _), put8_rd hR hbq _ _ _ _ _ _ _ _, put8_fr (hf.trans hf1) hw _ _ _ _ _ _ _ _⟩
end Go.Proofs.YtipepljmfgjbpaaGreatDoor.E6
