/-
  Lists in memory as rows of cells, and back. Written by gen3_rows.py.
-/
import Derived.Test.YtodicpnojcaanaaDoorSClone
namespace Go.Proofs.YtodicpnojcaanaaDoor
open Go Go.RowKit

theorem mapIdx_set {α β : Type} {l : List α} {f f' : Nat → α → β} {i : Nat} (hi : i < l.length) (h : ∀ j, j ≠ i → f' j = f j) : l.mapIdx f' = (l.mapIdx f).set i (f' i l[i]) := by
  apply List.ext_getElem?
  intro j
  by_cases hj : j = i
  · subst hj
    rw [List.getElem?_set_self (by simpa using hi), List.getElem?_mapIdx, List.getElem?_eq_getElem hi]
    rfl
  · rw [List.getElem?_set_ne (by omega), List.getElem?_mapIdx, List.getElem?_mapIdx, h j hj]
theorem rows_read {w : World} {b o sz : Nat} {rows : List (List Value)} (hsz : 0 < sz) (hlen : ∀ r ∈ rows, r.length = sz) (h : ∀ i r j u, rows[i]? = some r → r[j]? = some u → w.cell? ⟨b, o + i * sz + j, none⟩ = some u) : ∀ k u, rows.flatten[k]? = some u → w.cell? ⟨b, o + k, none⟩ = some u := by
  intro k u hk
  have hm : k % sz < sz := Nat.mod_lt _ hsz
  have e : k / sz * sz + k % sz = k := by rw [Nat.mul_comm]; exact Nat.div_add_mod k sz
  have := flat_get hlen (k / sz) (k % sz) hm
  rw [e, hk] at this
  cases hr : rows[k / sz]? with
  | none => rw [hr] at this; cases this
  | some r =>
    rw [hr, Option.bind_some] at this
    have h2 := h (k / sz) r (k % sz) u hr this.symm
    rwa [Nat.add_assoc, e] at h2
theorem flat_one {rows : List (List Value)} (h : ∀ r ∈ rows, ∀ u ∈ r, u.oneCell' = true) : ∀ u ∈ rows.flatten, u.oneCell' = true := by
  intro u hu
  obtain ⟨r, hr, hu⟩ := List.mem_flatten.1 hu
  exact h r hr u hu

/-! ### expressions -/
def eC (e : Ex) (v : Value) : List Value := [.int .i64 e.kind, .int .i64 e.op, .int .i64 e.num, .string (B e.name), v]
def rowsE (l : List Ex) (V : Nat → Value) : List (List Value) := l.mapIdx fun i e => eC e (V i)
theorem rowsE_len (l : List Ex) (V : Nat → Value) : (rowsE l V).length = l.length := by simp [rowsE]
theorem rowsE_sz (l : List Ex) (V : Nat → Value) : ∀ r ∈ rowsE l V, r.length = 5 := by
  intro r hr
  obtain ⟨i, hi, rfl⟩ := List.getElem_of_mem hr
  simp [rowsE, eC]
theorem rowsE_get {l : List Ex} {V : Nat → Value} {i : Nat} {e : Ex} (h : l[i]? = some e) : (rowsE l V)[i]? = some (eC e (V i)) := by simp [rowsE, h]
theorem rowsE_inv {l : List Ex} {V : Nat → Value} {i : Nat} {r : List Value} (h : (rowsE l V)[i]? = some r) : ∃ e, l[i]? = some e ∧ r = eC e (V i) := by
  simp only [rowsE, List.getElem?_mapIdx, Option.map_eq_some_iff] at h
  obtain ⟨e, h1, h2⟩ := h
  exact ⟨e, h1, h2.symm⟩
theorem ER.cells {w : World} {R : Nat → Prop} {l : List Ex} {A : Option Addr} {n c : Nat} (h : ER w R l (.slice A n c)) : ∃ V : Nat → Value, (∀ i e, l[i]? = some e → OkE e ∧ ER w R e.args (V i) ∧ ∃ b o, A = some ⟨b, o, none⟩ ∧ R b ∧ ECells w b (o + i * 5) e (V i)) := by
  cases h with
  | mk _ _ _ V hlen hc hs =>
    refine ⟨V, fun i e hi => ?_⟩
    obtain ⟨b, o, h1, h2, h3, h4⟩ := hc i e hi
    exact ⟨h3, hs i e hi, b, o, h1, h2, h4⟩
theorem ER.of_row {w : World} {g cap : Nat} {R : Nat → Prop} {l : List Ex} {V : Nat → Value} (hr : RowAt w g 24 5 cap (rowsE l V)) (hg : R g) (hl : l.length ≤ 9223372036854775807) (ho : ∀ (i : Nat) e, l[i]? = some e → OkE e) (hs : ∀ i e, l[i]? = some e → ER w R e.args (V i)) : ER w R l (.slice (some ⟨g, 0, none⟩) l.length cap) := by
  refine .mk l _ cap V hl (fun i e hi => ?_) hs
  have hrow := rowsE_get (V := V) hi
  have c := fun j u hj => hr.cell (j := j) (u := u) hrow hj
  refine ⟨g, 0, rfl, hg, ho i e hi, ?_⟩
  rw [Nat.zero_add]
  exact ⟨c 0 _ rfl, c 1 _ rfl, c 2 _ rfl, c 3 _ rfl, c 4 _ rfl⟩
theorem ER.nil {w : World} {R : Nat → Prop} (A : Option Addr) (c : Nat) : ER w R [] (.slice A 0 c) := .mk [] A c (fun _ => .bool false) (by simp) (fun i e hi => by simp at hi) (fun i e hi => by simp at hi)

/-! ### statements -/
def sC (s : St) (va vb ve : Value) : List Value := [.int .i64 s.kind, .int .i64 s.no, .string (B s.name), .int .i64 s.typ, .string (B s.callee), va, vb, ve]
def rowsS (l : List St) (V : Nat → Value × Value × Value) : List (List Value) := l.mapIdx fun i s => sC s (V i).1 (V i).2.1 (V i).2.2
theorem rowsS_len (l : List St) (V : Nat → Value × Value × Value) : (rowsS l V).length = l.length := by simp [rowsS]
theorem rowsS_sz (l : List St) (V : Nat → Value × Value × Value) : ∀ r ∈ rowsS l V, r.length = 8 := by
  intro r hr
  obtain ⟨i, hi, rfl⟩ := List.getElem_of_mem hr
  simp [rowsS, sC]
theorem rowsS_get {l : List St} {V : Nat → Value × Value × Value} {i : Nat} {s : St} (h : l[i]? = some s) : (rowsS l V)[i]? = some (sC s (V i).1 (V i).2.1 (V i).2.2) := by simp [rowsS, h]
theorem rowsS_inv {l : List St} {V : Nat → Value × Value × Value} {i : Nat} {r : List Value} (h : (rowsS l V)[i]? = some r) : ∃ s, l[i]? = some s ∧ r = sC s (V i).1 (V i).2.1 (V i).2.2 := by
  simp only [rowsS, List.getElem?_mapIdx, Option.map_eq_some_iff] at h
  obtain ⟨e, h1, h2⟩ := h
  exact ⟨e, h1, h2.symm⟩
theorem SR.cells {w : World} {R : Nat → Prop} {l : List St} {A : Option Addr} {n c : Nat} (h : SR w R l (.slice A n c)) : ∃ V : Nat → Value × Value × Value, (∀ i s, l[i]? = some s → OkS s ∧ ER w R s.args (V i).1 ∧ SR w R s.body (V i).2.1 ∧ SR w R s.els (V i).2.2 ∧ ∃ b o, A = some ⟨b, o, none⟩ ∧ R b ∧ SCells w b (o + i * 8) s (V i).1 (V i).2.1 (V i).2.2) := by
  cases h with
  | mk _ _ _ Va Vb Ve hlen hc ha hb he =>
    refine ⟨fun i => (Va i, Vb i, Ve i), fun i s hi => ?_⟩
    obtain ⟨b, o, h1, h2, h3, h4⟩ := hc i s hi
    exact ⟨h3, ha i s hi, hb i s hi, he i s hi, b, o, h1, h2, h4⟩
theorem SR.of_row {w : World} {g cap : Nat} {R : Nat → Prop} {l : List St} {V : Nat → Value × Value × Value} (hr : RowAt w g 46 8 cap (rowsS l V)) (hg : R g) (hl : l.length ≤ 9223372036854775807) (ho : ∀ (i : Nat) s, l[i]? = some s → OkS s)
    (ha : ∀ i s, l[i]? = some s → ER w R s.args (V i).1) (hb : ∀ i s, l[i]? = some s → SR w R s.body (V i).2.1) (he : ∀ i s, l[i]? = some s → SR w R s.els (V i).2.2) : SR w R l (.slice (some ⟨g, 0, none⟩) l.length cap) := by
  refine .mk l _ cap (fun i => (V i).1) (fun i => (V i).2.1) (fun i => (V i).2.2) hl (fun i e hi => ?_) ha hb he
  have hrow := rowsS_get (V := V) hi
  have c := fun j u hj => hr.cell (j := j) (u := u) hrow hj
  refine ⟨g, 0, rfl, hg, ho i e hi, ?_⟩
  rw [Nat.zero_add]
  exact ⟨c 0 _ rfl, c 1 _ rfl, c 2 _ rfl, c 3 _ rfl, c 4 _ rfl, c 5 _ rfl, c 6 _ rfl, c 7 _ rfl⟩
theorem SR.nil {w : World} {R : Nat → Prop} (A : Option Addr) (c : Nat) : SR w R [] (.slice A 0 c) := .mk [] A c (fun _ => .bool false) (fun _ => .bool false) (fun _ => .bool false) (by simp) (fun i e hi => by simp at hi) (fun i e hi => by simp at hi) (fun i e hi => by simp at hi) (fun i e hi => by simp at hi)

/-! ### parameters, functions -/
def pC (p : Pa) : List Value := [.string (B p.name), .int .i64 p.typ]
def rowsP (l : List Pa) : List (List Value) := l.map pC
theorem rowsP_sz (l : List Pa) : ∀ r ∈ rowsP l, r.length = 2 := by
  intro r hr
  obtain ⟨p, _, rfl⟩ := List.mem_map.1 hr
  rfl
theorem PR.of_row {w : World} {g cap : Nat} {R : Nat → Prop} {l : List Pa} (hr : RowAt w g 61 2 cap (rowsP l)) (hg : R g) (hl : l.length ≤ 9223372036854775807) (ho : ∀ (i : Nat) p, l[i]? = some p → OkP p) : PR w R l (.slice (some ⟨g, 0, none⟩) l.length cap) := by
  refine ⟨_, cap, rfl, hl, fun i p hi => ⟨g, 0, rfl, hg, ho i p hi, ?_⟩⟩
  have hrow : (rowsP l)[i]? = some (pC p) := by simp [rowsP, hi]
  have c := fun j u hj => hr.cell (j := j) (u := u) hrow hj
  rw [Nat.zero_add]
  exact ⟨c 0 _ rfl, c 1 _ rfl⟩
theorem PR.nil {w : World} {R : Nat → Prop} (A : Option Addr) (c : Nat) : PR w R [] (.slice A 0 c) := ⟨A, c, rfl, by simp, fun i p hi => by simp at hi⟩
def fC (f : Fn) (vp vb : Value) : List Value := [.string (B f.name), vp, .int .i64 f.result, vb, .int .i64 f.count]
def rowsF (l : List Fn) (V : Nat → Value × Value) : List (List Value) := l.mapIdx fun i f => fC f (V i).1 (V i).2
theorem rowsF_len (l : List Fn) (V : Nat → Value × Value) : (rowsF l V).length = l.length := by simp [rowsF]
theorem rowsF_sz (l : List Fn) (V : Nat → Value × Value) : ∀ r ∈ rowsF l V, r.length = 5 := by
  intro r hr
  obtain ⟨i, hi, rfl⟩ := List.getElem_of_mem hr
  simp [rowsF, fC]
theorem rowsF_get {l : List Fn} {V : Nat → Value × Value} {i : Nat} {f : Fn} (h : l[i]? = some f) : (rowsF l V)[i]? = some (fC f (V i).1 (V i).2) := by simp [rowsF, h]
theorem rowsF_inv {l : List Fn} {V : Nat → Value × Value} {i : Nat} {r : List Value} (h : (rowsF l V)[i]? = some r) : ∃ f, l[i]? = some f ∧ r = fC f (V i).1 (V i).2 := by
  simp only [rowsF, List.getElem?_mapIdx, Option.map_eq_some_iff] at h
  obtain ⟨e, h1, h2⟩ := h
  exact ⟨e, h1, h2.symm⟩
theorem FR.cells {w : World} {R : Nat → Prop} {l : List Fn} {A : Option Addr} {n c : Nat} (h : FR w R l (.slice A n c)) : ∃ V : Nat → Value × Value, (∀ i f, l[i]? = some f → OkF f ∧ PR w R f.params (V i).1 ∧ SR w R f.body (V i).2 ∧ ∃ b o, A = some ⟨b, o, none⟩ ∧ R b ∧ FCells w b (o + i * 5) f (V i).1 (V i).2) := by
  obtain ⟨A', c', h1, h2, h3⟩ := h.ex
  cases h1
  have : ∀ i : Nat, ∃ x : Value × Value, ∀ f, l[i]? = some f → OkF f ∧ PR w R f.params x.1 ∧ SR w R f.body x.2 ∧ ∃ b o, A = some ⟨b, o, none⟩ ∧ R b ∧ FCells w b (o + i * 5) f x.1 x.2 := by
    intro i
    cases hi : l[i]? with
    | none => exact ⟨(.bool false, .bool false), fun f hf => by cases hf⟩
    | some f =>
      obtain ⟨b, o, vp, vb, g1, g2, g3, g4, g5, g6⟩ := h3 i f hi
      exact ⟨(vp, vb), fun f' hf => by cases hf; exact ⟨g3, g5, g6, b, o, g1, g2, g4⟩⟩
  exact ⟨fun i => Classical.choose (this i), fun i => Classical.choose_spec (this i)⟩
theorem FR.of_row {w : World} {g cap : Nat} {R : Nat → Prop} {l : List Fn} {V : Nat → Value × Value} (hr : RowAt w g 43 5 cap (rowsF l V)) (hg : R g) (hl : l.length ≤ 9223372036854775807) (ho : ∀ (i : Nat) f, l[i]? = some f → OkF f)
    (hp : ∀ i f, l[i]? = some f → PR w R f.params (V i).1) (hb : ∀ i f, l[i]? = some f → SR w R f.body (V i).2) : FR w R l (.slice (some ⟨g, 0, none⟩) l.length cap) := by
  refine ⟨_, cap, rfl, hl, fun i f hi => ⟨g, 0, (V i).1, (V i).2, rfl, hg, ho i f hi, ?_, hp i f hi, hb i f hi⟩⟩
  have hrow := rowsF_get (V := V) hi
  have c := fun j u hj => hr.cell (j := j) (u := u) hrow hj
  rw [Nat.zero_add]
  exact ⟨c 0 _ rfl, c 1 _ rfl, c 2 _ rfl, c 3 _ rfl, c 4 _ rfl⟩
theorem FR.nil {w : World} {R : Nat → Prop} (A : Option Addr) (c : Nat) : FR w R [] (.slice A 0 c) := ⟨A, c, rfl, by simp, fun i p hi => by simp at hi⟩

/-! ### clones of lists in memory -/
theorem slice_one {w : World} {R : Nat → Prop} {l : List Ex} {v : Value} (h : ER w R l v) : v.oneCell' = true := by obtain ⟨A, c, rfl⟩ := h.slice; rfl
theorem slice_oneS {w : World} {R : Nat → Prop} {l : List St} {v : Value} (h : SR w R l v) : v.oneCell' = true := by obtain ⟨A, c, rfl⟩ := h.slice; rfl
theorem slice_oneP {w : World} {R : Nat → Prop} {l : List Pa} {v : Value} (h : PR w R l v) : v.oneCell' = true := by obtain ⟨A, c, rfl⟩ := h.slice; rfl
/-- The clone of a list of expressions: the rows, and what the Args are. -/
theorem cloneE_list (l : List Ex) (hn : l.length ≤ 1000) (A : Option Addr) (n c : Nat) (w : World) (h : EIn w w.heap.size l (.slice A n c)) :
    ∃ V : Nat → Value, (∀ i e, l[i]? = some e → OkE e ∧ EIn w w.heap.size e.args (V i)) ∧
      Calls Tryd.prog 98 #[.slice A n c] w (CloneR w 24 5 (rowsE l V)) := by
  obtain ⟨V, hV⟩ := h.cells
  have hnl : n = (rowsE l V).length := by obtain ⟨A', c', h1⟩ := h.slice; cases h1; exact (rowsE_len l V).symm
  refine ⟨V, fun i e hi => ⟨(hV i e hi).1, (hV i e hi).2.1⟩, ?_⟩
  rw [hnl]
  refine cloneE_calls _ (rowsE_sz l V) (flat_one fun r hr u hu => ?_) (by rw [rowsE_len]; exact hn) A c w fun h0 => ?_
  · obtain ⟨i, hi, rfl⟩ := List.getElem_of_mem hr
    obtain ⟨e, he, h2⟩ := rowsE_inv (List.getElem?_eq_getElem hi)
    rw [h2] at hu
    simp only [eC, List.mem_cons, List.not_mem_nil, or_false] at hu
    rcases hu with rfl | rfl | rfl | rfl | rfl <;> first | rfl | exact slice_one (hV i e he).2.1
  · rw [rowsE_len] at h0
    obtain ⟨_, _, b, o, hA, hb, _⟩ := hV 0 l[0] (List.getElem?_eq_getElem h0)
    refine ⟨b, o, hA, hb, rows_read (by omega) (rowsE_sz l V) fun i r j u hi hj => ?_⟩
    obtain ⟨e, he, rfl⟩ := rowsE_inv hi
    obtain ⟨_, _, b', o', hA', _, c0, c1, c2, c3, c4⟩ := hV i e he
    rw [hA] at hA'
    cases hA'
    match j, hj with
    | 0, hj => cases hj; exact c0
    | 1, hj => cases hj; exact c1
    | 2, hj => cases hj; exact c2
    | 3, hj => cases hj; exact c3
    | 4, hj => cases hj; exact c4
    | j + 5, hj => simp [eC] at hj
theorem cloneS_list (l : List St) (hn : l.length ≤ 1000) (A : Option Addr) (n c M : Nat) (w : World) (hM : M ≤ w.heap.size) (h : SIn w M l (.slice A n c)) :
    ∃ V : Nat → Value × Value × Value, (∀ i s, l[i]? = some s → OkS s ∧ EIn w M s.args (V i).1 ∧ SIn w M s.body (V i).2.1 ∧ SIn w M s.els (V i).2.2) ∧
      Calls Tryd.prog 78 #[.slice A n c] w (CloneR w 46 8 (rowsS l V)) := by
  obtain ⟨V, hV⟩ := h.cells
  have hnl : n = (rowsS l V).length := by obtain ⟨A', c', h1⟩ := h.slice; cases h1; exact (rowsS_len l V).symm
  refine ⟨V, fun i e hi => ⟨(hV i e hi).1, (hV i e hi).2.1, (hV i e hi).2.2.1, (hV i e hi).2.2.2.1⟩, ?_⟩
  rw [hnl]
  refine cloneS_calls _ (rowsS_sz l V) (flat_one fun r hr u hu => ?_) (by rw [rowsS_len]; exact hn) A c w fun h0 => ?_
  · obtain ⟨i, hi, rfl⟩ := List.getElem_of_mem hr
    obtain ⟨e, he, h2⟩ := rowsS_inv (List.getElem?_eq_getElem hi)
    rw [h2] at hu
    simp only [sC, List.mem_cons, List.not_mem_nil, or_false] at hu
    rcases hu with rfl | rfl | rfl | rfl | rfl | rfl | rfl | rfl <;> first | rfl | exact slice_one (hV i e he).2.1 | exact slice_oneS (hV i e he).2.2.1 | exact slice_oneS (hV i e he).2.2.2.1
  · rw [rowsS_len] at h0
    obtain ⟨_, _, _, _, b, o, hA, hb, _⟩ := hV 0 l[0] (List.getElem?_eq_getElem h0)
    refine ⟨b, o, hA, Nat.lt_of_lt_of_le hb hM, rows_read (by omega) (rowsS_sz l V) fun i r j u hi hj => ?_⟩
    obtain ⟨e, he, rfl⟩ := rowsS_inv hi
    obtain ⟨_, _, _, _, b', o', hA', _, c0, c1, c2, c3, c4, c5, c6, c7⟩ := hV i e he
    rw [hA] at hA'
    cases hA'
    match j, hj with
    | 0, hj => cases hj; exact c0
    | 1, hj => cases hj; exact c1
    | 2, hj => cases hj; exact c2
    | 3, hj => cases hj; exact c3
    | 4, hj => cases hj; exact c4
    | 5, hj => cases hj; exact c5
    | 6, hj => cases hj; exact c6
    | 7, hj => cases hj; exact c7
    | j + 8, hj => simp [sC] at hj
theorem cloneP_list (l : List Pa) (hn : l.length ≤ 1000) (A : Option Addr) (n c : Nat) (w : World) (h : PIn w w.heap.size l (.slice A n c)) :
    Calls Tryd.prog 80 #[.slice A n c] w (CloneR w 61 2 (rowsP l)) := by
  obtain ⟨A', c', h1, h2, h3⟩ := h.ex
  cases h1
  have e : l.length = (rowsP l).length := by simp [rowsP]
  rw [e]
  refine cloneP_calls _ (rowsP_sz l) (flat_one fun r hr u hu => ?_) (by rw [← e]; exact hn) A c w fun h0 => ?_
  · obtain ⟨p, _, rfl⟩ := List.mem_map.1 hr
    simp only [pC, List.mem_cons, List.not_mem_nil, or_false] at hu
    rcases hu with rfl | rfl <;> rfl
  · rw [← e] at h0
    obtain ⟨b, o, hA, hb, _⟩ := h3 0 l[0] (List.getElem?_eq_getElem h0)
    refine ⟨b, o, hA, hb, rows_read (by omega) (rowsP_sz l) fun i r j u hi hj => ?_⟩
    simp only [rowsP, List.getElem?_map, Option.map_eq_some_iff] at hi
    obtain ⟨p, hp, rfl⟩ := hi
    obtain ⟨b', o', hA', _, _, c0, c1⟩ := h3 i p hp
    rw [hA] at hA'
    cases hA'
    match j, hj with
    | 0, hj => cases hj; exact c0
    | 1, hj => cases hj; exact c1
    | j + 2, hj => simp [pC] at hj
theorem cloneF_list (l : List Fn) (hn : l.length ≤ 1000) (A : Option Addr) (n c M : Nat) (w : World) (hM : M ≤ w.heap.size) (h : FIn w M l (.slice A n c)) :
    ∃ V : Nat → Value × Value, (∀ i f, l[i]? = some f → OkF f ∧ PIn w M f.params (V i).1 ∧ SIn w M f.body (V i).2) ∧
      Calls Tryd.prog 53 #[.slice A n c] w (CloneR w 43 5 (rowsF l V)) := by
  obtain ⟨V, hV⟩ := h.cells
  have hnl : n = (rowsF l V).length := by obtain ⟨A', c', h1⟩ := h.slice; cases h1; exact (rowsF_len l V).symm
  refine ⟨V, fun i e hi => ⟨(hV i e hi).1, (hV i e hi).2.1, (hV i e hi).2.2.1⟩, ?_⟩
  rw [hnl]
  refine cloneF_calls _ (rowsF_sz l V) (flat_one fun r hr u hu => ?_) (by rw [rowsF_len]; exact hn) A c w fun h0 => ?_
  · obtain ⟨i, hi, rfl⟩ := List.getElem_of_mem hr
    obtain ⟨e, he, h2⟩ := rowsF_inv (List.getElem?_eq_getElem hi)
    rw [h2] at hu
    simp only [fC, List.mem_cons, List.not_mem_nil, or_false] at hu
    rcases hu with rfl | rfl | rfl | rfl | rfl <;> first | rfl | exact slice_oneP (hV i e he).2.1 | exact slice_oneS (hV i e he).2.2.1
  · rw [rowsF_len] at h0
    obtain ⟨_, _, _, b, o, hA, hb, _⟩ := hV 0 l[0] (List.getElem?_eq_getElem h0)
    refine ⟨b, o, hA, Nat.lt_of_lt_of_le hb hM, rows_read (by omega) (rowsF_sz l V) fun i r j u hi hj => ?_⟩
    obtain ⟨e, he, rfl⟩ := rowsF_inv hi
    obtain ⟨_, _, _, b', o', hA', _, c0, c1, c2, c3, c4⟩ := hV i e he
    rw [hA] at hA'
    cases hA'
    match j, hj with
    | 0, hj => cases hj; exact c0
    | 1, hj => cases hj; exact c1
    | 2, hj => cases hj; exact c2
    | 3, hj => cases hj; exact c3
    | 4, hj => cases hj; exact c4
    | j + 5, hj => simp [fC] at hj
end Go.Proofs.YtodicpnojcaanaaDoor
