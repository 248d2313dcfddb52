/-
  PLAIN WORDS FOR LAYER 3: expressions, statements, functions; names; which have the right shape; numbers; equality. No program is named here.
  What the texts of this seat share: texts as values; lists of expressions and of statements in memory.
  Boxed expressions and statements.
-/
import Derived.Test.YtipepljmfgjbpaaGreatDoorProg
import Derived.WalkKit
import Derived.WalkSpells
import Derived.IntWalk
import Derived.Below
import Derived.LoopTactic
import Derived.Outline
import Derived.Lib.Hide
import Derived.Maps.AppendAt
namespace Go.Proofs.YtipepljmfgjbpaaGreatDoor.S3

abbrev Bytes := List UInt8

structure Ex where
  kind : Int
  op : Int
  num : Int
  name : Bytes
  args : List Ex
structure St where
  kind : Int
  no : Int
  name : Bytes
  typ : Int
  callee : Bytes
  args : List Ex
  body : List St
  els : List St
structure Pa where
  name : Bytes
  typ : Int
structure Fn where
  name : Bytes
  params : List Pa
  result : Int
  body : List St
  count : Int
deriving instance Inhabited for Ex, St, Pa, Fn

/-! ### names -/
def lettI (c : Int) : Bool := (decide (65 ≤ c) && decide (c ≤ 90)) || (decide (97 ≤ c) && decide (c ≤ 122))
def digI (c : Int) : Bool := decide (48 ≤ c) && decide (c ≤ 57)
def okC (c : UInt8) : Bool := lettI c.toNat || digI c.toNat || (c.toNat == 95)
def kws : List Bytes := [[102, 117, 110, 99], [118, 97, 114], [105, 102], [101, 108, 115, 101], [119, 104, 105, 108, 101], [114, 101, 116, 117, 114, 110], [112, 114, 105, 110, 116], [114, 101, 97, 100], [110, 101, 119], [108, 101, 110], [105, 110, 116], [98, 111, 111, 108], [97, 114, 114, 97, 121], [116, 114, 117, 101], [102, 97, 108, 115, 101]]
def kwB (s : Bytes) : Bool := kws.contains s
def nameB (s : Bytes) : Bool := decide (0 < s.length) && decide (s.length ≤ 16) && lettI ((s.headD 0).toNat : Int) && s.all okC && !kwB s

/-! ### expressions -/
/-- A field for a name: 0 absent, 1 possible, 2 needed. -/
def howB (s : Bytes) (how : Int) : Bool := if s = [] then decide (how ≠ 2) else decide (how ≠ 0) && nameB s
structure ERow where
  name : Int
  first : Int
  last : Int
  most : Int
  args : Nat
def exRow (k : Int) : Option ERow :=
  if k = 1 then some ⟨0, 0, 0, 9223372036854775807, 0⟩ else if k = 2 then some ⟨0, 0, 0, 1, 0⟩ else if k = 3 then some ⟨2, 0, 0, 0, 0⟩
  else if k = 4 then some ⟨0, 14, 15, 0, 1⟩ else if k = 5 then some ⟨0, 1, 13, 0, 2⟩ else if k = 6 then some ⟨2, 0, 0, 0, 1⟩ else if k = 7 then some ⟨2, 0, 0, 0, 0⟩ else none
def rowFit (r : ERow) (e : Ex) : Bool := howB e.name r.name && (decide (r.first ≤ e.op) && decide (e.op ≤ r.last)) && (decide (0 ≤ e.num) && decide (e.num ≤ r.most)) && decide (e.args.length = r.args)
def fitB (e : Ex) : Bool := match exRow e.kind with
  | none => false
  | some r => rowFit r e
/-- The greatest of what f says, if it says 0 of none. -/
def deps (f : Ex → Nat) (l : List Ex) : Option Nat := l.foldlM (fun d e => if f e = 0 then none else some (max d (f e))) 0
def depOf : Option Nat → Nat
  | none => 0
  | some d => d + 1
def dep : Nat → Ex → Nat
  | 0, _ => 0
  | k + 1, e => if fitB e then depOf (deps (dep k) e.args) else 0
def exB (e : Ex) : Bool := decide (dep 20 e ≠ 0)

theorem deps_snoc (f : Ex → Nat) (l : List Ex) (e : Ex) : deps f (l ++ [e]) = match deps f l with
    | none => none
    | some d => if f e = 0 then none else some (max d (f e)) := by
  unfold deps
  rw [List.foldlM_append]
  cases List.foldlM (fun d e => if f e = 0 then none else some (max d (f e))) 0 l with
  | none => rfl
  | some d => simp
theorem deps_none_of_zero {f : Ex → Nat} {l r : List Ex} {e : Ex} {d : Nat} (h : deps f l = some d) (h0 : f e = 0) : deps f (l ++ e :: r) = none := by
  unfold deps at h ⊢
  rw [List.foldlM_append, h]
  simp [List.foldlM_cons, h0]
theorem deps_bound (f : Ex → Nat) (b : Nat) (hb : ∀ e, f e ≤ b) (l : List Ex) : ∀ d, deps f l = some d → d ≤ b := by
  intro d h
  have key : ∀ (l : List Ex) (a d : Nat), a ≤ b → List.foldlM (fun d e => if f e = 0 then none else some (max d (f e))) a l = some d → d ≤ b := by
    intro l
    induction l with
    | nil => intro a d ha h; simp at h; omega
    | cons e l ih =>
      intro a d ha h
      rw [List.foldlM_cons] at h
      by_cases h0 : f e = 0
      · simp [h0] at h
      · simp only [h0, if_false, Option.bind_eq_bind, Option.bind_some] at h
        exact ih _ _ (by have := hb e; omega) h
  exact key l 0 d (by omega) h
theorem dep_le (k : Nat) : ∀ e, dep k e ≤ k := by
  induction k with
  | zero => intro e; simp [dep]
  | succ k ih =>
    intro e
    unfold dep
    split
    · cases h : deps (dep k) e.args with
      | none => simp [depOf]
      | some d => have := deps_bound _ k ih _ _ h; simp [depOf]; omega
    · omega
/-! ### statements -/
/-! ### numbers -/
/-! ### equality -/
open Classical in
noncomputable def eqE (a b : Ex) : Bool := decide (a = b)
open Classical in
noncomputable def eqEs (a b : List Ex) : Bool := decide (a = b)
end Go.Proofs.YtipepljmfgjbpaaGreatDoor.S3

namespace Go.Proofs.YtipepljmfgjbpaaGreatDoor.S3
open Go Go.RowKit

abbrev B (l : Bytes) : ByteArray := ⟨l.toArray⟩
def okI (n : Int) : Prop := -9223372036854775808 ≤ n ∧ n ≤ 9223372036854775807
theorem after {w W W' : World} (h : Below w.heap.size w W) (hb : Below W.heap.size W W') : Below w.heap.size w W' := h.trans (hb.mono h.size)

/-- An expression's own fields fit. -/
structure OkE (e : Ex) : Prop where
  kind : okI e.kind
  op : okI e.op
  num : okI e.num
  name : e.name.length ≤ 9223372036854775807
structure OkS (s : St) : Prop where
  kind : okI s.kind
  no : okI s.no
  typ : okI s.typ
  name : s.name.length ≤ 9223372036854775807
  callee : s.callee.length ≤ 9223372036854775807

/-- The five cells of an expression whose Args are the value v. -/
structure ECells (w : World) (b o : Nat) (e : Ex) (v : Value) : Prop where
  c0 : w.cell? ⟨b, o, none⟩ = some (.int .i64 e.kind)
  c1 : w.cell? ⟨b, o + 1, none⟩ = some (.int .i64 e.op)
  c2 : w.cell? ⟨b, o + 2, none⟩ = some (.int .i64 e.num)
  c3 : w.cell? ⟨b, o + 3, none⟩ = some (.string (B e.name))
  c4 : w.cell? ⟨b, o + 4, none⟩ = some v
/-- The eight cells of a statement. -/
structure SCells (w : World) (b o : Nat) (s : St) (va vb ve : Value) : Prop where
  c0 : w.cell? ⟨b, o, none⟩ = some (.int .i64 s.kind)
  c1 : w.cell? ⟨b, o + 1, none⟩ = some (.int .i64 s.no)
  c2 : w.cell? ⟨b, o + 2, none⟩ = some (.string (B s.name))
  c3 : w.cell? ⟨b, o + 3, none⟩ = some (.int .i64 s.typ)
  c4 : w.cell? ⟨b, o + 4, none⟩ = some (.string (B s.callee))
  c5 : w.cell? ⟨b, o + 5, none⟩ = some va
  c6 : w.cell? ⟨b, o + 6, none⟩ = some vb
  c7 : w.cell? ⟨b, o + 7, none⟩ = some ve

/-- A slice value that reads as these expressions, whose blocks all are among R. -/
inductive ER (w : World) (R : Nat → Prop) : List Ex → Value → Prop
  | mk (l : List Ex) (A : Option Addr) (c : Nat) (V : Nat → Value) (hlen : l.length ≤ 9223372036854775807)
      (hc : ∀ i e, l[i]? = some e → ∃ b o, A = some ⟨b, o, none⟩ ∧ R b ∧ OkE e ∧ ECells w b (o + i * 5) e (V i))
      (hs : ∀ i e, l[i]? = some e → ER w R e.args (V i)) : ER w R l (.slice A l.length c)
inductive SR (w : World) (R : Nat → Prop) : List St → Value → Prop
  | mk (l : List St) (A : Option Addr) (c : Nat) (Va Vb Ve : Nat → Value) (hlen : l.length ≤ 9223372036854775807)
      (hc : ∀ i s, l[i]? = some s → ∃ b o, A = some ⟨b, o, none⟩ ∧ R b ∧ OkS s ∧ SCells w b (o + i * 8) s (Va i) (Vb i) (Ve i))
      (ha : ∀ i s, l[i]? = some s → ER w R s.args (Va i))
      (hb : ∀ i s, l[i]? = some s → SR w R s.body (Vb i))
      (he : ∀ i s, l[i]? = some s → SR w R s.els (Ve i)) : SR w R l (.slice A l.length c)
/-- .. below block M. -/
abbrev EIn (w : World) (M : Nat) (l : List Ex) (v : Value) : Prop := ER w (fun b => b < M) l v
abbrev SIn (w : World) (M : Nat) (l : List St) (v : Value) : Prop := SR w (fun b => b < M) l v

theorem ECells.keep {w w' : World} {b o : Nat} {e : Ex} {v : Value} (h : ECells w b o e v) (hk : ∀ i, w'.cell? ⟨b, i, none⟩ = w.cell? ⟨b, i, none⟩) : ECells w' b o e v := by
  obtain ⟨h0, h1, h2, h3, h4⟩ := h
  exact ⟨(hk _).trans h0, (hk _).trans h1, (hk _).trans h2, (hk _).trans h3, (hk _).trans h4⟩
theorem SCells.keep {w w' : World} {b o : Nat} {s : St} {va vb ve : Value} (h : SCells w b o s va vb ve) (hk : ∀ i, w'.cell? ⟨b, i, none⟩ = w.cell? ⟨b, i, none⟩) : SCells w' b o s va vb ve := by
  obtain ⟨h0, h1, h2, h3, h4, h5, h6, h7⟩ := h
  exact ⟨(hk _).trans h0, (hk _).trans h1, (hk _).trans h2, (hk _).trans h3, (hk _).trans h4, (hk _).trans h5, (hk _).trans h6, (hk _).trans h7⟩
theorem ER.keep {w w' : World} {R R' : Nat → Prop} {l : List Ex} {v : Value} (h : ER w R l v) (hR : ∀ b, R b → R' b) (hk : ∀ b i, R b → w'.cell? ⟨b, i, none⟩ = w.cell? ⟨b, i, none⟩) : ER w' R' l v := by
  induction h with
  | mk l A c V hlen hc hs ih =>
    refine .mk l A c V hlen (fun i e he => ?_) (fun i e he => ih i e he)
    obtain ⟨b, o, h1, h2, h3, h4⟩ := hc i e he
    exact ⟨b, o, h1, hR b h2, h3, h4.keep fun j => hk b j h2⟩
theorem SR.keep {w w' : World} {R R' : Nat → Prop} {l : List St} {v : Value} (h : SR w R l v) (hR : ∀ b, R b → R' b) (hk : ∀ b i, R b → w'.cell? ⟨b, i, none⟩ = w.cell? ⟨b, i, none⟩) : SR w' R' l v := by
  induction h with
  | mk l A c Va Vb Ve hlen hc ha hb he ihb ihe =>
    refine .mk l A c Va Vb Ve hlen (fun i e hi => ?_) (fun i e hi => (ha i e hi).keep hR hk) (fun i e hi => ihb i e hi) (fun i e hi => ihe i e hi)
    obtain ⟨b, o, h1, h2, h3, h4⟩ := hc i e hi
    exact ⟨b, o, h1, hR b h2, h3, h4.keep fun j => hk b j h2⟩
theorem EIn.keep {w w' : World} {M M' : Nat} {l : List Ex} {v : Value} (h : EIn w M l v) (hM : M ≤ M') (hk : ∀ b i, b < M → w'.cell? ⟨b, i, none⟩ = w.cell? ⟨b, i, none⟩) : EIn w' M' l v := ER.keep h (fun _ hb => Nat.lt_of_lt_of_le hb hM) hk
theorem SIn.keep {w w' : World} {M M' : Nat} {l : List St} {v : Value} (h : SIn w M l v) (hM : M ≤ M') (hk : ∀ b i, b < M → w'.cell? ⟨b, i, none⟩ = w.cell? ⟨b, i, none⟩) : SIn w' M' l v := SR.keep h (fun _ hb => Nat.lt_of_lt_of_le hb hM) hk
theorem ER.slice {w : World} {R : Nat → Prop} {l : List Ex} {v : Value} (h : ER w R l v) : ∃ A c, v = .slice A l.length c := by cases h; exact ⟨_, _, rfl⟩
theorem SR.slice {w : World} {R : Nat → Prop} {l : List St} {v : Value} (h : SR w R l v) : ∃ A c, v = .slice A l.length c := by cases h; exact ⟨_, _, rfl⟩
theorem EIn.bel {w w' : World} {M : Nat} {l : List Ex} {v : Value} (h : EIn w M l v) (hb : Below M w w') : EIn w' M l v := h.keep (Nat.le_refl _) fun _ _ hl => hb.cell hl
theorem SIn.bel {w w' : World} {M : Nat} {l : List St} {v : Value} (h : SIn w M l v) (hb : Below M w w') : SIn w' M l v := h.keep (Nat.le_refl _) fun _ _ hl => hb.cell hl
theorem EIn.up {w w' : World} {l : List Ex} {v : Value} (h : EIn w w.heap.size l v) (hb : Below w.heap.size w w') : EIn w' w'.heap.size l v := h.keep hb.size fun _ _ hl => hb.cell hl
theorem SIn.up {w w' : World} {l : List St} {v : Value} (h : SIn w w.heap.size l v) (hb : Below w.heap.size w w') : SIn w' w'.heap.size l v := h.keep hb.size fun _ _ hl => hb.cell hl
theorem EIn.slice {w : World} {M : Nat} {l : List Ex} {v : Value} (h : EIn w M l v) : ∃ A c, v = .slice A l.length c := by cases h; exact ⟨_, _, rfl⟩
theorem SIn.slice {w : World} {M : Nat} {l : List St} {v : Value} (h : SIn w M l v) : ∃ A c, v = .slice A l.length c := by cases h; exact ⟨_, _, rfl⟩
theorem EIn.le {w : World} {M : Nat} {l : List Ex} {v : Value} (h : EIn w M l v) : l.length ≤ 9223372036854775807 := by cases h; assumption
theorem SIn.le {w : World} {M : Nat} {l : List St} {v : Value} (h : SIn w M l v) : l.length ≤ 9223372036854775807 := by cases h; assumption
theorem EIn.at_ {w : World} {M : Nat} {l : List Ex} {A : Option Addr} {n c : Nat} (h : EIn w M l (.slice A n c)) : n = l.length ∧ ∀ i (hi : i < l.length), ∃ b o v, A = some ⟨b, o, none⟩ ∧ b < M ∧ OkE l[i] ∧ ECells w b (o + i * 5) l[i] v ∧ EIn w M l[i].args v := by
  cases h with
  | mk _ _ _ V hlen hc hs =>
    refine ⟨rfl, fun i hi => ?_⟩
    obtain ⟨b, o, h1, h2, h3, h4⟩ := hc i l[i] (List.getElem?_eq_getElem hi)
    exact ⟨b, o, V i, h1, h2, h3, h4, hs i _ (List.getElem?_eq_getElem hi)⟩
theorem SIn.at_ {w : World} {M : Nat} {l : List St} {A : Option Addr} {n c : Nat} (h : SIn w M l (.slice A n c)) : n = l.length ∧ ∀ i (hi : i < l.length), ∃ b o va vb ve, A = some ⟨b, o, none⟩ ∧ b < M ∧ OkS l[i] ∧ SCells w b (o + i * 8) l[i] va vb ve ∧ EIn w M l[i].args va ∧ SIn w M l[i].body vb ∧ SIn w M l[i].els ve := by
  cases h with
  | mk _ _ _ Va Vb Ve hlen hc ha hb he =>
    refine ⟨rfl, fun i hi => ?_⟩
    have hg := List.getElem?_eq_getElem hi
    obtain ⟨b, o, h1, h2, h3, h4⟩ := hc i l[i] hg
    exact ⟨b, o, Va i, Vb i, Ve i, h1, h2, h3, h4, ha i _ hg, hb i _ hg, he i _ hg⟩

/-- An expression by value. -/
abbrev eV (e : Ex) (v : Value) : Value := .agg #[.int .i64 e.kind, .int .i64 e.op, .int .i64 e.num, .string (B e.name), v]
abbrev sV (s : St) (va vb ve : Value) : Value := .agg #[.int .i64 s.kind, .int .i64 s.no, .string (B s.name), .int .i64 s.typ, .string (B s.callee), va, vb, ve]
end Go.Proofs.YtipepljmfgjbpaaGreatDoor.S3

namespace Go.Proofs.YtipepljmfgjbpaaGreatDoor.S3
open Go Go.RowKit

theorem newCell (W : World) (vs : Array Value) (T : TypeId) (i : Nat) (v : Value) (h : vs[i]? = some v) : (W.alloc (.cells vs T)).cell? ⟨W.heap.size, i, none⟩ = some v := (cell_of_row _ _ i _ _ _ (heap_alloc_new W _)).trans h
/-- Block b is an expression's box. -/
structure EBox (w : World) (b : Nat) (e : Ex) (v : Value) : Prop where
  c0 : w.cell? ⟨b, 0, none⟩ = some (.int .i64 e.kind)
  c1 : w.cell? ⟨b, 1, none⟩ = some (.int .i64 e.op)
  c2 : w.cell? ⟨b, 2, none⟩ = some (.int .i64 e.num)
  c3 : w.cell? ⟨b, 3, none⟩ = some (.string (B e.name))
  c4 : w.cell? ⟨b, 4, none⟩ = some v
structure SBox (w : World) (b : Nat) (s : St) (va vb ve : Value) : Prop where
  c0 : w.cell? ⟨b, 0, none⟩ = some (.int .i64 s.kind)
  c1 : w.cell? ⟨b, 1, none⟩ = some (.int .i64 s.no)
  c2 : w.cell? ⟨b, 2, none⟩ = some (.string (B s.name))
  c3 : w.cell? ⟨b, 3, none⟩ = some (.int .i64 s.typ)
  c4 : w.cell? ⟨b, 4, none⟩ = some (.string (B s.callee))
  c5 : w.cell? ⟨b, 5, none⟩ = some va
  c6 : w.cell? ⟨b, 6, none⟩ = some vb
  c7 : w.cell? ⟨b, 7, none⟩ = some ve
abbrev eO (e : Ex) (v : Value) : Obj := .cells #[.int .i64 e.kind, .int .i64 e.op, .int .i64 e.num, .string (B e.name), v] 67
abbrev sO (s : St) (va vb ve : Value) : Obj := .cells #[.int .i64 s.kind, .int .i64 s.no, .string (B s.name), .int .i64 s.typ, .string (B s.callee), va, vb, ve] 27
theorem EBox.new (w : World) (e : Ex) (v : Value) : EBox (w.alloc (eO e v)) w.heap.size e v :=
  ⟨newCell w _ _ 0 _ rfl, newCell w _ _ 1 _ rfl, newCell w _ _ 2 _ rfl, newCell w _ _ 3 _ rfl, newCell w _ _ 4 _ rfl⟩
theorem SBox.new (w : World) (s : St) (va vb ve : Value) : SBox (w.alloc (sO s va vb ve)) w.heap.size s va vb ve :=
  ⟨newCell w _ _ 0 _ rfl, newCell w _ _ 1 _ rfl, newCell w _ _ 2 _ rfl, newCell w _ _ 3 _ rfl, newCell w _ _ 4 _ rfl, newCell w _ _ 5 _ rfl, newCell w _ _ 6 _ rfl, newCell w _ _ 7 _ rfl⟩
theorem EBox.keep {w w' : World} {b M : Nat} {e : Ex} {v : Value} (h : EBox w b e v) (hb : Below M w w') (hl : b < M) : EBox w' b e v := by
  obtain ⟨c0, c1, c2, c3, c4⟩ := h
  have k := fun i => hb.cell (p := ⟨b, i, none⟩) hl
  exact ⟨(k 0).trans c0, (k 1).trans c1, (k 2).trans c2, (k 3).trans c3, (k 4).trans c4⟩
theorem SBox.keep {w w' : World} {b M : Nat} {s : St} {va vb ve : Value} (h : SBox w b s va vb ve) (hb : Below M w w') (hl : b < M) : SBox w' b s va vb ve := by
  obtain ⟨c0, c1, c2, c3, c4, c5, c6, c7⟩ := h
  have k := fun i => hb.cell (p := ⟨b, i, none⟩) hl
  exact ⟨(k 0).trans c0, (k 1).trans c1, (k 2).trans c2, (k 3).trans c3, (k 4).trans c4, (k 5).trans c5, (k 6).trans c6, (k 7).trans c7⟩
theorem bal (w : World) (o : Obj) : Below w.heap.size w (w.alloc o) := (Below.refl _ w).alloc (Nat.le_refl _) _
theorem bal2 (w : World) (o1 o2 : Obj) : Below w.heap.size w ((w.alloc o1).alloc o2) := ((Below.refl _ w).alloc (Nat.le_refl _) _).alloc (by simp) _
theorem sz1 (w : World) (o : Obj) : (w.alloc o).heap.size = w.heap.size + 1 := by simp
theorem EIn.al {w : World} {l : List Ex} {v : Value} (h : EIn w w.heap.size l v) (o : Obj) : EIn (w.alloc o) (w.alloc o).heap.size l v := h.up (bal w o)
theorem SIn.al {w : World} {l : List St} {v : Value} (h : SIn w w.heap.size l v) (o : Obj) : SIn (w.alloc o) (w.alloc o).heap.size l v := h.up (bal w o)
end Go.Proofs.YtipepljmfgjbpaaGreatDoor.S3
