/-
  PLAIN LAWS on visits, numbers, equality of statements; and the frame 'all old blocks but two are as they were'.
-/
import Derived.Test.YtodicpnojcaanaaDoorSBox
namespace Go.Proofs.YtodicpnojcaanaaDoor
open Go Go.RowKit

/-! ### visits -/
def FA (_ : Nat) (s : St) : Bool := headB s
def FB (no : Nat) (s : St) : Bool := decide (s.no = (no : Int))
section
variable {F : Nat → St → Bool} {k : Nat}
theorem fold_snoc {l : List St} {i n0 : Nat} (h : i < l.length) : (l.take (i + 1)).foldlM (visS F k) n0 = ((l.take i).foldlM (visS F k) n0).bind fun n => visS F k n l[i] := by
  rw [List.take_succ_eq_append_getElem h, List.foldlM_append]
  cases (l.take i).foldlM (visS F k) n0 with
  | none => rfl
  | some n => simp
theorem fold_none {l : List St} {i n0 n : Nat} (h : i < l.length) (hf : (l.take i).foldlM (visS F k) n0 = some n) (hs : visS F k n l[i] = none) : vis F (k + 1) l n0 = none := by
  rw [vis_succ]
  have e : l = l.take i ++ l[i] :: l.drop (i + 1) := by rw [← List.drop_eq_getElem_cons h, List.take_append_drop]
  rw [e, List.foldlM_append, hf]
  simp only [Option.bind_eq_bind, Option.bind_some, List.foldlM_cons, hs]
  rfl
theorem fold_done {l : List St} {n0 n : Nat} (hf : (l.take l.length).foldlM (visS F k) n0 = some n) : vis F (k + 1) l n0 = some n := by
  rw [List.take_length] at hf
  rw [vis_succ, hf]
end
theorem vis_bounds (F : Nat → St → Bool) (k : Nat) : ∀ (l : List St) (n0 n : Nat), vis F k l n0 = some n → n0 ≤ 200 → n0 ≤ n ∧ n ≤ 200 := by
  induction k with
  | zero =>
    intro l n0 n h h0
    unfold vis at h
    split at h
    · simp at h; omega
    · cases h
  | succ k ih =>
    intro l n0 n h
    rw [vis_succ] at h
    revert n0 n
    induction l with
    | nil => intro n0 n h h0; simp at h; omega
    | cons s l ihl =>
      intro n0 n h h0
      rw [List.foldlM_cons] at h
      unfold visS at h
      split at h
      · simp at h
      · rename_i hc
        simp only [Option.bind_eq_bind] at h
        rw [Option.bind_assoc, Option.bind_eq_some_iff] at h
        obtain ⟨a, ha, h⟩ := h
        rw [Option.bind_eq_some_iff] at h
        obtain ⟨b, hb, h⟩ := h
        have i1 := ih _ _ _ ha (by omega)
        have i2 := ih _ _ _ hb (by omega)
        have i3 := ihl _ _ h (by omega)
        omega

/-! ### all old blocks but two are as they were -/
structure Fr (N S : Nat) (w w' : World) : Prop where
  os : w'.os = w.os
  tape : w'.tape = w.tape
  output : w'.output = w.output
  size : w.heap.size ≤ w'.heap.size
  block : ∀ b, b < w.heap.size → b ≠ N → b ≠ S → w'.heap[b]? = w.heap[b]?
section
variable {N S : Nat} {w a b : World}
theorem Fr.refl (N S : Nat) (w : World) : Fr N S w w := ⟨rfl, rfl, rfl, Nat.le_refl _, fun _ _ _ _ => rfl⟩
theorem Fr.trans (h : Fr N S w a) (k : Fr N S a b) : Fr N S w b :=
  ⟨k.os.trans h.os, k.tape.trans h.tape, k.output.trans h.output, Nat.le_trans h.size k.size, fun i hi h1 h2 => (k.block i (Nat.lt_of_lt_of_le hi h.size) h1 h2).trans (h.block i hi h1 h2)⟩
theorem Fr.of (h : Below w.heap.size w a) : Fr N S w a := ⟨h.os, h.tape, h.output, h.size, fun i hi _ _ => h.block i hi⟩
theorem Fr.alloc (h : Fr N S w a) (o : Obj) : Fr N S w (a.alloc o) := h.trans (Fr.of (bal a o))
theorem Fr.set (h : Fr N S w a) {p : Addr} (hp : p.block = N ∨ p.block = S) (u : Value) : Fr N S w (a.setCell p u) :=
  ⟨h.os, h.tape, h.output, by simpa [World.setCell] using h.size, fun i hi h1 h2 => (Below.heap_setCell a p u i (by rintro rfl; rcases hp with hp | hp; exact h1 hp; exact h2 hp)).trans (h.block i hi h1 h2)⟩
theorem Fr.below (h : Fr N S w a) {M : Nat} (hw : M ≤ w.heap.size) (hN : M ≤ N) (hS : M ≤ S) : Below M w a := ⟨h.os, h.tape, h.output, h.size, fun i hi => h.block i (by omega) (by omega) (by omega)⟩
theorem Fr.heap (h : Fr N S w a) {b : Nat} {o : Obj} (hb : w.heap[b]? = some o) (h1 : b ≠ N) (h2 : b ≠ S) : a.heap[b]? = some o := (h.block b (lt_of_block hb) h1 h2).trans hb
theorem Fr.cell (h : Fr N S w a) {b i : Nat} (hb : b < w.heap.size) (h1 : b ≠ N) (h2 : b ≠ S) : a.cell? ⟨b, i, none⟩ = w.cell? ⟨b, i, none⟩ := World.cell?_of_block (w := w) (h.block b hb h1 h2)
theorem SBox.fr {b' : Nat} {s : St} {va vb ve : Value} (h : SBox w b' s va vb ve) (hf : Fr N S w a) (hb : b' < w.heap.size) (h1 : b' ≠ N) (h2 : b' ≠ S) : SBox a b' s va vb ve := by
  obtain ⟨c0, c1, c2, c3, c4, c5, c6, c7⟩ := h
  have k := fun i => hf.cell (i := i) hb h1 h2
  exact ⟨(k 0).trans c0, (k 1).trans c1, (k 2).trans c2, (k 3).trans c3, (k 4).trans c4, (k 5).trans c5, (k 6).trans c6, (k 7).trans c7⟩
end
end Go.Proofs.YtodicpnojcaanaaDoor
