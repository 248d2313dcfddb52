/-
  What the texts of this seat share: texts as values; lists of expressions and of statements in memory.
-/
import Derived.Test.YtodicpnojcaanaaDoorProg
import Derived.Test.YtodicpnojcaanaaDoorSMath
import Derived.WalkKit
import Derived.WalkSpells
import Derived.IntWalk
import Derived.Below
import Derived.LoopTactic
import Derived.Outline
import Derived.Lib.Hide
import Derived.Maps.AppendAt
namespace Go.Proofs.YtodicpnojcaanaaDoor
open Go Go.RowKit

abbrev B (l : Bytes) : ByteArray := ⟨l.toArray⟩
def okI (n : Int) : Prop := -9223372036854775808 ≤ n ∧ n ≤ 9223372036854775807
theorem after {w W W' : World} (h : Below w.heap.size w W) (hb : Below W.heap.size W W') : Below w.heap.size w W' := h.trans (hb.mono h.size)

/-- An expression's own fields fit. -/
structure OkE (e : Ex) : Prop where
  kind : okI e.kind
  op : okI e.op
  num : okI e.num
  name : e.name.length ≤ 9223372036854775807
structure OkS (s : St) : Prop where
  kind : okI s.kind
  no : okI s.no
  typ : okI s.typ
  name : s.name.length ≤ 9223372036854775807
  callee : s.callee.length ≤ 9223372036854775807

/-- The five cells of an expression whose Args are the value v. -/
structure ECells (w : World) (b o : Nat) (e : Ex) (v : Value) : Prop where
  c0 : w.cell? ⟨b, o, none⟩ = some (.int .i64 e.kind)
  c1 : w.cell? ⟨b, o + 1, none⟩ = some (.int .i64 e.op)
  c2 : w.cell? ⟨b, o + 2, none⟩ = some (.int .i64 e.num)
  c3 : w.cell? ⟨b, o + 3, none⟩ = some (.string (B e.name))
  c4 : w.cell? ⟨b, o + 4, none⟩ = some v
/-- The eight cells of a statement. -/
structure SCells (w : World) (b o : Nat) (s : St) (va vb ve : Value) : Prop where
  c0 : w.cell? ⟨b, o, none⟩ = some (.int .i64 s.kind)
  c1 : w.cell? ⟨b, o + 1, none⟩ = some (.int .i64 s.no)
  c2 : w.cell? ⟨b, o + 2, none⟩ = some (.string (B s.name))
  c3 : w.cell? ⟨b, o + 3, none⟩ = some (.int .i64 s.typ)
  c4 : w.cell? ⟨b, o + 4, none⟩ = some (.string (B s.callee))
  c5 : w.cell? ⟨b, o + 5, none⟩ = some va
  c6 : w.cell? ⟨b, o + 6, none⟩ = some vb
  c7 : w.cell? ⟨b, o + 7, none⟩ = some ve

/-- A slice value that reads as these expressions, whose blocks all are among R. -/
inductive ER (w : World) (R : Nat → Prop) : List Ex → Value → Prop
  | mk (l : List Ex) (A : Option Addr) (c : Nat) (V : Nat → Value) (hlen : l.length ≤ 9223372036854775807)
      (hc : ∀ i e, l[i]? = some e → ∃ b o, A = some ⟨b, o, none⟩ ∧ R b ∧ OkE e ∧ ECells w b (o + i * 5) e (V i))
      (hs : ∀ i e, l[i]? = some e → ER w R e.args (V i)) : ER w R l (.slice A l.length c)
inductive SR (w : World) (R : Nat → Prop) : List St → Value → Prop
  | mk (l : List St) (A : Option Addr) (c : Nat) (Va Vb Ve : Nat → Value) (hlen : l.length ≤ 9223372036854775807)
      (hc : ∀ i s, l[i]? = some s → ∃ b o, A = some ⟨b, o, none⟩ ∧ R b ∧ OkS s ∧ SCells w b (o + i * 8) s (Va i) (Vb i) (Ve i))
      (ha : ∀ i s, l[i]? = some s → ER w R s.args (Va i))
      (hb : ∀ i s, l[i]? = some s → SR w R s.body (Vb i))
      (he : ∀ i s, l[i]? = some s → SR w R s.els (Ve i)) : SR w R l (.slice A l.length c)
/-- .. below block M. -/
abbrev EIn (w : World) (M : Nat) (l : List Ex) (v : Value) : Prop := ER w (fun b => b < M) l v
abbrev SIn (w : World) (M : Nat) (l : List St) (v : Value) : Prop := SR w (fun b => b < M) l v

theorem ECells.keep {w w' : World} {b o : Nat} {e : Ex} {v : Value} (h : ECells w b o e v) (hk : ∀ i, w'.cell? ⟨b, i, none⟩ = w.cell? ⟨b, i, none⟩) : ECells w' b o e v := by
  obtain ⟨h0, h1, h2, h3, h4⟩ := h
  exact ⟨(hk _).trans h0, (hk _).trans h1, (hk _).trans h2, (hk _).trans h3, (hk _).trans h4⟩
theorem SCells.keep {w w' : World} {b o : Nat} {s : St} {va vb ve : Value} (h : SCells w b o s va vb ve) (hk : ∀ i, w'.cell? ⟨b, i, none⟩ = w.cell? ⟨b, i, none⟩) : SCells w' b o s va vb ve := by
  obtain ⟨h0, h1, h2, h3, h4, h5, h6, h7⟩ := h
  exact ⟨(hk _).trans h0, (hk _).trans h1, (hk _).trans h2, (hk _).trans h3, (hk _).trans h4, (hk _).trans h5, (hk _).trans h6, (hk _).trans h7⟩
theorem ER.keep {w w' : World} {R R' : Nat → Prop} {l : List Ex} {v : Value} (h : ER w R l v) (hR : ∀ b, R b → R' b) (hk : ∀ b i, R b → w'.cell? ⟨b, i, none⟩ = w.cell? ⟨b, i, none⟩) : ER w' R' l v := by
  induction h with
  | mk l A c V hlen hc hs ih =>
    refine .mk l A c V hlen (fun i e he => ?_) (fun i e he => ih i e he)
    obtain ⟨b, o, h1, h2, h3, h4⟩ := hc i e he
    exact ⟨b, o, h1, hR b h2, h3, h4.keep fun j => hk b j h2⟩
theorem SR.keep {w w' : World} {R R' : Nat → Prop} {l : List St} {v : Value} (h : SR w R l v) (hR : ∀ b, R b → R' b) (hk : ∀ b i, R b → w'.cell? ⟨b, i, none⟩ = w.cell? ⟨b, i, none⟩) : SR w' R' l v := by
  induction h with
  | mk l A c Va Vb Ve hlen hc ha hb he ihb ihe =>
    refine .mk l A c Va Vb Ve hlen (fun i e hi => ?_) (fun i e hi => (ha i e hi).keep hR hk) (fun i e hi => ihb i e hi) (fun i e hi => ihe i e hi)
    obtain ⟨b, o, h1, h2, h3, h4⟩ := hc i e hi
    exact ⟨b, o, h1, hR b h2, h3, h4.keep fun j => hk b j h2⟩
theorem EIn.keep {w w' : World} {M M' : Nat} {l : List Ex} {v : Value} (h : EIn w M l v) (hM : M ≤ M') (hk : ∀ b i, b < M → w'.cell? ⟨b, i, none⟩ = w.cell? ⟨b, i, none⟩) : EIn w' M' l v := ER.keep h (fun _ hb => Nat.lt_of_lt_of_le hb hM) hk
theorem SIn.keep {w w' : World} {M M' : Nat} {l : List St} {v : Value} (h : SIn w M l v) (hM : M ≤ M') (hk : ∀ b i, b < M → w'.cell? ⟨b, i, none⟩ = w.cell? ⟨b, i, none⟩) : SIn w' M' l v := SR.keep h (fun _ hb => Nat.lt_of_lt_of_le hb hM) hk
theorem ER.slice {w : World} {R : Nat → Prop} {l : List Ex} {v : Value} (h : ER w R l v) : ∃ A c, v = .slice A l.length c := by cases h; exact ⟨_, _, rfl⟩
theorem SR.slice {w : World} {R : Nat → Prop} {l : List St} {v : Value} (h : SR w R l v) : ∃ A c, v = .slice A l.length c := by cases h; exact ⟨_, _, rfl⟩
theorem EIn.bel {w w' : World} {M : Nat} {l : List Ex} {v : Value} (h : EIn w M l v) (hb : Below M w w') : EIn w' M l v := h.keep (Nat.le_refl _) fun _ _ hl => hb.cell hl
theorem SIn.bel {w w' : World} {M : Nat} {l : List St} {v : Value} (h : SIn w M l v) (hb : Below M w w') : SIn w' M l v := h.keep (Nat.le_refl _) fun _ _ hl => hb.cell hl
theorem EIn.up {w w' : World} {l : List Ex} {v : Value} (h : EIn w w.heap.size l v) (hb : Below w.heap.size w w') : EIn w' w'.heap.size l v := h.keep hb.size fun _ _ hl => hb.cell hl
theorem SIn.up {w w' : World} {l : List St} {v : Value} (h : SIn w w.heap.size l v) (hb : Below w.heap.size w w') : SIn w' w'.heap.size l v := h.keep hb.size fun _ _ hl => hb.cell hl
theorem EIn.slice {w : World} {M : Nat} {l : List Ex} {v : Value} (h : EIn w M l v) : ∃ A c, v = .slice A l.length c := by cases h; exact ⟨_, _, rfl⟩
theorem SIn.slice {w : World} {M : Nat} {l : List St} {v : Value} (h : SIn w M l v) : ∃ A c, v = .slice A l.length c := by cases h; exact ⟨_, _, rfl⟩
theorem EIn.le {w : World} {M : Nat} {l : List Ex} {v : Value} (h : EIn w M l v) : l.length ≤ 9223372036854775807 := by cases h; assumption
theorem SIn.le {w : World} {M : Nat} {l : List St} {v : Value} (h : SIn w M l v) : l.length ≤ 9223372036854775807 := by cases h; assumption
theorem EIn.at_ {w : World} {M : Nat} {l : List Ex} {A : Option Addr} {n c : Nat} (h : EIn w M l (.slice A n c)) : n = l.length ∧ ∀ i (hi : i < l.length), ∃ b o v, A = some ⟨b, o, none⟩ ∧ b < M ∧ OkE l[i] ∧ ECells w b (o + i * 5) l[i] v ∧ EIn w M l[i].args v := by
  cases h with
  | mk _ _ _ V hlen hc hs =>
    refine ⟨rfl, fun i hi => ?_⟩
    obtain ⟨b, o, h1, h2, h3, h4⟩ := hc i l[i] (List.getElem?_eq_getElem hi)
    exact ⟨b, o, V i, h1, h2, h3, h4, hs i _ (List.getElem?_eq_getElem hi)⟩
theorem SIn.at_ {w : World} {M : Nat} {l : List St} {A : Option Addr} {n c : Nat} (h : SIn w M l (.slice A n c)) : n = l.length ∧ ∀ i (hi : i < l.length), ∃ b o va vb ve, A = some ⟨b, o, none⟩ ∧ b < M ∧ OkS l[i] ∧ SCells w b (o + i * 8) l[i] va vb ve ∧ EIn w M l[i].args va ∧ SIn w M l[i].body vb ∧ SIn w M l[i].els ve := by
  cases h with
  | mk _ _ _ Va Vb Ve hlen hc ha hb he =>
    refine ⟨rfl, fun i hi => ?_⟩
    have hg := List.getElem?_eq_getElem hi
    obtain ⟨b, o, h1, h2, h3, h4⟩ := hc i l[i] hg
    exact ⟨b, o, Va i, Vb i, Ve i, h1, h2, h3, h4, ha i _ hg, hb i _ hg, he i _ hg⟩

/-- An expression by value. -/
abbrev eV (e : Ex) (v : Value) : Value := .agg #[.int .i64 e.kind, .int .i64 e.op, .int .i64 e.num, .string (B e.name), v]
abbrev sV (s : St) (va vb ve : Value) : Value := .agg #[.int .i64 s.kind, .int .i64 s.no, .string (B s.name), .int .i64 s.typ, .string (B s.callee), va, vb, ve]
theorem bcell {W w1 : World} (hb : Below W.heap.size W w1) : (∀ b o, b < W.heap.size → w1.cell? ⟨b, o, none⟩ = W.cell? ⟨b, o, none⟩) ∧ (∀ b o, b < W.heap.size → w1.frozen? ⟨b, o, none⟩ = W.frozen? ⟨b, o, none⟩) :=
  ⟨fun b o h => hb.cell (p := ⟨b, o, none⟩) h, fun b o h => hb.frozen (p := ⟨b, o, none⟩) h⟩
end Go.Proofs.YtodicpnojcaanaaDoor
