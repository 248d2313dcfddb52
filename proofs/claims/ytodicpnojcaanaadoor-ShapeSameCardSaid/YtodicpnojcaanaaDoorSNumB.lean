/-
  Numbers of statements: plain laws; boxes as rows; what number's closure has done after i rounds.
-/
import Derived.Test.YtodicpnojcaanaaDoorSNumA
namespace Go.Proofs.YtodicpnojcaanaaDoor
open Go Go.RowKit

/-! ### plain laws -/
def numbPre (k : Nat) (l : List St) (n0 : Int) (i : Nat) : List St × Int := (l.take i).foldl (numbS (numbL k)) ([], n0)
def mid (k : Nat) (l : List St) (n0 : Int) (i : Nat) : List St := (numbPre k l n0 i).1 ++ l.drop i
/-- A statement with its number, n, and those of its blocks. -/
def numbSt (k : Nat) (n : Int) (s : St) : St := { s with no := n, body := (numbL k s.body (n + 1)).1, els := (numbL k s.els (numbL k s.body (n + 1)).2).1 }
theorem numbPre_succ {k : Nat} {l : List St} {n0 : Int} {i : Nat} (h : i < l.length) : numbPre k l n0 (i + 1) = ((numbPre k l n0 i).1 ++ [numbSt k (numbPre k l n0 i).2 l[i]], (numbL k l[i].els (numbL k l[i].body ((numbPre k l n0 i).2 + 1)).2).2) := by
  unfold numbPre
  rw [List.take_succ_eq_append_getElem h, List.foldl_append]
  rfl
theorem numbPre_len (k : Nat) (l : List St) (n0 : Int) : ∀ i, i ≤ l.length → (numbPre k l n0 i).1.length = i := by
  intro i
  induction i with
  | zero => intro _; rfl
  | succ i ih => intro h; rw [numbPre_succ (by omega)]; simp [ih (by omega)]
theorem mid_len {k : Nat} {l : List St} {n0 : Int} {i : Nat} (h : i ≤ l.length) : (mid k l n0 i).length = l.length := by
  unfold mid
  rw [List.length_append, numbPre_len k l n0 i h, List.length_drop]
  omega
theorem mid_ge {k : Nat} {l : List St} {n0 : Int} {i j : Nat} (h : i ≤ l.length) (hj : i ≤ j) : (mid k l n0 i)[j]? = l[j]? := by
  unfold mid
  rw [List.getElem?_append_right (by rw [numbPre_len k l n0 i h]; exact hj), numbPre_len k l n0 i h, List.getElem?_drop]
  congr 1
  omega
theorem mid_succ {k : Nat} {l : List St} {n0 : Int} {i : Nat} (h : i < l.length) : mid k l n0 (i + 1) = (mid k l n0 i).set i (numbSt k (numbPre k l n0 i).2 l[i]) := by
  unfold mid
  rw [numbPre_succ h, List.set_append_right _ _ (by rw [numbPre_len k l n0 i (by omega)]; omega), numbPre_len k l n0 i (by omega), Nat.sub_self, List.drop_eq_getElem_cons h]
  simp only [List.append_assoc, List.set_cons_zero, List.singleton_append]
theorem mid_done (k : Nat) (l : List St) (n0 : Int) : mid k l n0 l.length = (numbL (k + 1) l n0).1 := by
  unfold mid numbPre
  rw [List.take_length, List.drop_length, List.append_nil, numbL]
theorem mid_zero (k : Nat) (l : List St) (n0 : Int) : mid k l n0 0 = l := by simp [mid, numbPre]
theorem numb_vis (F : Nat → St → Bool) (k : Nat) : ∀ (l : List St) (n0 m : Nat), vis F k l n0 = some m → (numbL k l n0).2 = m := by
  induction k with
  | zero =>
    intro l n0 m h
    unfold vis at h
    split at h
    · simp at h; simp [numbL, h]
    · cases h
  | succ k ih =>
    intro l n0 m h
    rw [vis_succ] at h
    rw [numbL]
    have key : ∀ (l : List St) (acc : List St) (n0 m : Nat), l.foldlM (visS F k) n0 = some m → (l.foldl (numbS (numbL k)) (acc, (n0 : Int))).2 = m := by
      intro l
      induction l with
      | nil => intro acc n0 m h; simp at h; simp [h]
      | cons s l ihl =>
        intro acc n0 m h
        rw [List.foldlM_cons] at h
        unfold visS at h
        split at h
        · simp at h
        · simp only [Option.bind_eq_bind] at h
          rw [Option.bind_assoc, Option.bind_eq_some_iff] at h
          obtain ⟨a, ha, h⟩ := h
          rw [Option.bind_eq_some_iff] at h
          obtain ⟨b, hb, h⟩ := h
          rw [List.foldl_cons]
          have e1 := ih _ _ _ ha
          have e2 := ih _ _ _ hb
          have : numbS (numbL k) (acc, (n0 : Int)) s = (acc ++ [numbSt k n0 s], (b : Int)) := by
            simp only [numbS, numbSt]
            rw [show ((n0 : Int) + 1) = ((n0 + 1 : Nat) : Int) by omega, e1, e2]
          rw [this]
          exact ihl _ _ _ h
    exact key l [] n0 m h
theorem pre_vis (F : Nat → St → Bool) (k : Nat) (l : List St) (i : Nat) (n0 n : Nat) (h : (l.take i).foldlM (visS F k) n0 = some n) : (numbPre k l n0 i).2 = n := by
  have := numb_vis F (k + 1) (l.take i) n0 n (by rw [vis_succ]; exact h)
  rw [numbL] at this
  exact this
theorem vis_len (F : Nat → St → Bool) (k : Nat) : ∀ (l : List St) (n0 m : Nat), vis F k l n0 = some m → n0 ≤ 200 → l.length ≤ m - n0 := by
  cases k with
  | zero =>
    intro l n0 m h _
    unfold vis at h
    split at h
    · rename_i h1; subst h1; simp
    · cases h
  | succ k =>
    intro l
    induction l with
    | nil => intro n0 m _ _; simp
    | cons s l ih =>
      intro n0 m h h0
      rw [vis_succ, List.foldlM_cons] at h
      unfold visS at h
      split at h
      · simp at h
      · rename_i hc
        simp only [Option.bind_eq_bind] at h
        rw [Option.bind_assoc, Option.bind_eq_some_iff] at h
        obtain ⟨a, ha, h⟩ := h
        rw [Option.bind_eq_some_iff] at h
        obtain ⟨b, hb, h⟩ := h
        have i1 := vis_bounds F k _ _ _ ha (by omega)
        have i2 := vis_bounds F k _ _ _ hb (by omega)
        have i3 := ih b m (by rw [vis_succ]; exact h) (by omega)
        have i4 := vis_bounds F (k + 1) l b m (by rw [vis_succ]; exact h) (by omega)
        simp only [List.length_cons]
        omega
/-- What follows of a visit that goes through: at each statement. -/
theorem vis_at {F : Nat → St → Bool} {k : Nat} {l : List St} {n0 m : Nat} (h : vis F (k + 1) l n0 = some m) (h0 : n0 ≤ 200) {i n : Nat} (hi : i < l.length) (hf : (l.take i).foldlM (visS F k) n0 = some n) :
    ∃ a b, n < 200 ∧ F n l[i] = true ∧ vis F k l[i].body (n + 1) = some a ∧ vis F k l[i].els a = some b ∧ (l.take (i + 1)).foldlM (visS F k) n0 = some b ∧ a ≤ 200 ∧ b ≤ 200 := by
  have hn := vis_bounds F (k + 1) (l.take i) n0 n (by rw [vis_succ]; exact hf) h0
  have hs := fold_snoc (F := F) (k := k) (n0 := n0) hi
  rw [hf, Option.bind_some] at hs
  cases hv : visS F k n l[i] with
  | none => rw [fold_none hi hf hv] at h; cases h
  | some b =>
    rw [hv] at hs
    unfold visS at hv
    split at hv
    · cases hv
    · rename_i hc
      rw [Option.bind_eq_some_iff] at hv
      obtain ⟨a, ha, hb⟩ := hv
      have i1 := vis_bounds F k _ _ _ ha (by omega)
      have i2 := vis_bounds F k _ _ _ hb (by omega)
      exact ⟨a, b, by omega, by simpa using fun hh => hc (.inr hh), ha, hb, hs, by omega, by omega⟩
theorem headB_args {s : St} (h : headB s = true) : s.args.length ≤ 8 ∧ ∀ e ∈ s.args, dep 20 e ≠ 0 := by
  unfold headB at h
  cases hr : stRow s.kind with
  | none => rw [hr] at h; cases h
  | some r =>
    rw [hr] at h
    simp only [rowHead, Bool.and_eq_true, decide_eq_true_eq] at h
    have h2 : r.most ≤ 8 := by
      unfold stRow at hr
      repeat' (split at hr)
      all_goals first | (cases hr; simp) | cases hr
    refine ⟨by omega, fun e he => ?_⟩
    have := h.1.1.2
    unfold exsB at this
    rw [List.all_eq_true] at this
    simpa [exB] using this e he

/-! ### boxes as rows -/
abbrev BX (w : World) (b : Nat) (s : St) (va vb ve : Value) : Prop := RowAt w b 46 8 1 [sC s va vb ve]
section
variable {w w' : World} {b N S : Nat} {s : St} {va vb ve : Value}
theorem BX.new (w : World) (s : St) (va vb ve : Value) : BX (w.alloc (sO s va vb ve)) w.heap.size s va vb ve := by
  refine ⟨_, heap_alloc_new w _, rfl, Nat.le_refl _, fun r hr => ?_, fun i r j u hi hj => ?_⟩
  · simp only [List.mem_cons, List.not_mem_nil, or_false] at hr; subst hr; rfl
  · match i, hi with
    | 0, hi =>
      cases hi
      rw [Nat.zero_mul, Nat.zero_add, List.getElem?_toArray]
      exact hj
    | i + 1, hi => simp at hi
theorem BX.at_ (h : BX w b s va vb ve) : SBox w b s va vb ve := by
  have c := fun (j : Nat) u hj => RowAt.cell h (i := 0) (j := j) (u := u) (r := sC s va vb ve) rfl hj
  have c0 := c 0 _ rfl
  have c1 := c 1 _ rfl
  have c2 := c 2 _ rfl
  have c3 := c 3 _ rfl
  have c4 := c 4 _ rfl
  have c5 := c 5 _ rfl
  have c6 := c 6 _ rfl
  have c7 := c 7 _ rfl
  exact ⟨c0, c1, c2, c3, c4, c5, c6, c7⟩
theorem BX.set5 (h : BX w b s va vb ve) (u : Value) : BX (w.setCell ⟨b, 5, none⟩ u) b s u vb ve := RowAt.set1 h (i := 0) (j := 5) (r := sC s va vb ve) rfl (by omega) u
theorem BX.set6 (h : BX w b s va vb ve) (u : Value) : BX (w.setCell ⟨b, 6, none⟩ u) b s va u ve := RowAt.set1 h (i := 0) (j := 6) (r := sC s va vb ve) rfl (by omega) u
theorem BX.set7 (h : BX w b s va vb ve) (u : Value) : BX (w.setCell ⟨b, 7, none⟩ u) b s va vb u := RowAt.set1 h (i := 0) (j := 7) (r := sC s va vb ve) rfl (by omega) u
end
theorem Fr.setNew {N S : Nat} {w a : World} (h : Fr N S w a) {p : Addr} (hp : w.heap.size ≤ p.block) (u : Value) : Fr N S w (a.setCell p u) :=
  ⟨h.os, h.tape, h.output, by simpa [World.setCell] using h.size, fun i hi h1 h2 => (Below.heap_setCell a p u i (by omega)).trans (h.block i hi h1 h2)⟩
theorem size_set (w : World) (p : Addr) (u : Value) : (w.setCell p u).heap.size = w.heap.size := by simp [World.setCell]

/-! ### what has been done after i rounds -/
structure New (w : World) (R : Nat → Prop) (s : St) (va vb ve : Value) : Prop where
  ok : OkS s
  a : ER w R s.args va
  b : SR w R s.body vb
  e : SR w R s.els ve
theorem New.keep {w w' : World} {R R' : Nat → Prop} {s : St} {va vb ve : Value} (h : New w R s va vb ve) (hR : ∀ b, R b → R' b) (hk : ∀ b i, R b → w'.cell? ⟨b, i, none⟩ = w.cell? ⟨b, i, none⟩) : New w' R' s va vb ve :=
  ⟨h.ok, h.a.keep hR hk, h.b.keep hR hk, h.e.keep hR hk⟩
def CSI (w : World) (N g cap k : Nat) (l : List St) (V0 : Nat → Value × Value × Value) (n0 : Int) (i : Nat) (wr : World) : Prop :=
  ∃ V : Nat → Value × Value × Value, RowAt wr g 46 8 cap (rowsS (mid k l n0 i) V) ∧
    (∀ (j : Nat) s, (mid k l n0 i)[j]? = some s → j < i → New wr (fun b => w.heap.size ≤ b ∧ b < wr.heap.size ∧ b ≠ g) s (V j).1 (V j).2.1 (V j).2.2) ∧ (∀ j, i ≤ j → V j = V0 j) ∧ Fr N N w wr
theorem rowsS_set {l : List St} {V : Nat → Value × Value × Value} {i : Nat} (s : St) (va vb ve : Value) (hi : i < l.length) : rowsS (l.set i s) (fun j => if j = i then (va, vb, ve) else V j) = (rowsS l V).set i (sC s va vb ve) := by
  apply List.ext_getElem?
  intro j
  by_cases hj : j = i
  · subst hj
    rw [List.getElem?_set_self (by rw [rowsS_len]; exact hi)]
    rw [rowsS_get (List.getElem?_set_self hi)]
    simp
  · rw [List.getElem?_set_ne (by omega)]
    simp only [rowsS, List.getElem?_mapIdx, List.getElem?_set_ne (Ne.symm hj), hj, if_false]
abbrev store8 (w : World) (g i : Nat) (s : St) (va vb ve : Value) : World :=
  ((((((((w.setCell ⟨g, i * 8, none⟩ (.int .i64 s.kind)).setCell ⟨g, i * 8 + 1, none⟩ (.int .i64 s.no)).setCell ⟨g, i * 8 + 2, none⟩ (.string (B s.name))).setCell ⟨g, i * 8 + 3, none⟩ (.int .i64 s.typ)).setCell ⟨g, i * 8 + 4, none⟩ (.string (B s.callee))).setCell ⟨g, i * 8 + 5, none⟩ va).setCell ⟨g, i * 8 + 6, none⟩ vb).setCell ⟨g, i * 8 + 7, none⟩ ve)
theorem store8_size (w : World) (g i : Nat) (s : St) (va vb ve : Value) : (store8 w g i s va vb ve).heap.size = w.heap.size := by simp only [store8, size_set]
theorem store8_cell (w : World) (g i : Nat) (s : St) (va vb ve : Value) {b : Nat} (hb : b ≠ g) (k : Nat) : (store8 w g i s va vb ve).cell? ⟨b, k, none⟩ = w.cell? ⟨b, k, none⟩ := by
  apply World.cell?_of_block
  simp only [store8]
  rw [Below.heap_setCell _ _ _ b hb, Below.heap_setCell _ _ _ b hb, Below.heap_setCell _ _ _ b hb, Below.heap_setCell _ _ _ b hb, Below.heap_setCell _ _ _ b hb, Below.heap_setCell _ _ _ b hb, Below.heap_setCell _ _ _ b hb, Below.heap_setCell _ _ _ b hb]
theorem store8_heap (w : World) (g i : Nat) (s : St) (va vb ve : Value) {b : Nat} (hb : b ≠ g) : (store8 w g i s va vb ve).heap[b]? = w.heap[b]? := by
  simp only [store8]
  rw [Below.heap_setCell _ _ _ b hb, Below.heap_setCell _ _ _ b hb, Below.heap_setCell _ _ _ b hb, Below.heap_setCell _ _ _ b hb, Below.heap_setCell _ _ _ b hb, Below.heap_setCell _ _ _ b hb, Below.heap_setCell _ _ _ b hb, Below.heap_setCell _ _ _ b hb]
theorem store8_fr {w a : World} {N S : Nat} (h : Fr N S w a) {g : Nat} (hg : w.heap.size ≤ g) (i : Nat) (s : St) (va vb ve : Value) : Fr N S w (store8 a g i s va vb ve) :=
  (((((((h.setNew (p := ⟨g, _, none⟩) hg _).setNew (p := ⟨g, _, none⟩) hg _).setNew (p := ⟨g, _, none⟩) hg _).setNew (p := ⟨g, _, none⟩) hg _).setNew (p := ⟨g, _, none⟩) hg _).setNew (p := ⟨g, _, none⟩) hg _).setNew (p := ⟨g, _, none⟩) hg _).setNew (p := ⟨g, _, none⟩) hg _
theorem CSI.step {w wr w7 : World} {N g cap k i : Nat} {l : List St} {V0 : Nat → Value × Value × Value} {n0 : Int} {va vb ve : Value} (h : CSI w N g cap k l V0 n0 i wr) (hg : w.heap.size ≤ g) (hgN : g ≠ N) (hNw : N < w.heap.size) (hi : i < l.length) (hf : Fr N N wr w7)
    (hN : New w7 (fun b => wr.heap.size < b ∧ b < w7.heap.size) (numbSt k (numbPre k l n0 i).2 l[i]) va vb ve) :
    CSI w N g cap k l V0 n0 (i + 1) (store8 w7 g i (numbSt k (numbPre k l n0 i).2 l[i]) va vb ve) := by
  obtain ⟨V, h1, h2, h3, h4⟩ := h
  have hgr := h1.lt
  have hs := hf.size
  have hs0 := h4.size
  have hml : i < (mid k l n0 i).length := by rw [mid_len (by omega)]; exact hi
  refine ⟨fun j => if j = i then (va, vb, ve) else V j, ?_, ?_, ?_, ?_⟩
  · rw [mid_succ hi, rowsS_set _ _ _ _ hml]
    exact (h1.fr hf hgN hgN).set8 (rowsS_get (List.getElem?_eq_getElem hml)) _ _ _ _ _ _ _ _
  · intro j s hj hji
    rw [mid_succ hi] at hj
    by_cases hjj : j = i
    · subst hjj
      rw [List.getElem?_set_self hml] at hj
      cases hj
      simp only [if_true]
      exact hN.keep (fun b hb => ⟨by have := hb.1; omega, by rw [store8_size]; exact hb.2, by have := hb.1; omega⟩) fun b q hb => store8_cell _ _ _ _ _ _ _ (by have := hb.1; omega) q
    · rw [List.getElem?_set_ne (by omega)] at hj
      simp only [hjj, if_false]
      exact (h2 j s hj (by omega)).keep (fun b hb => ⟨hb.1, by rw [store8_size]; have := hb.2.1; omega, hb.2.2⟩) fun b q hb => (store8_cell _ _ _ _ _ _ _ hb.2.2 q).trans (hf.cell hb.2.1 (by have := hb.1; omega) (by have := hb.1; omega))
  · intro j hj
    simp only [show ¬ j = i by omega, if_false]
    exact h3 j (by omega)
  · exact store8_fr (h4.trans hf) hg _ _ _ _ _
theorem CSI.done {w wr : World} {N g cap k : Nat} {l : List St} {V0 : Nat → Value × Value × Value} {n0 : Int} (h : CSI w N g cap k l V0 n0 l.length wr) (hg : w.heap.size ≤ g) (hl : l.length ≤ 1000) :
    Fr N N w wr ∧ SR wr (Rn w.heap.size wr.heap.size) (numbL (k + 1) l n0).1 (.slice (some ⟨g, 0, none⟩) l.length cap) := by
  obtain ⟨V, h1, h2, _, h4⟩ := h
  have hlen := mid_len (k := k) (l := l) (n0 := n0) (Nat.le_refl _)
  have hsub := fun (i : Nat) (s : St) (hi : (mid k l n0 l.length)[i]? = some s) => (h2 i s hi (by have := (List.getElem?_eq_some_iff.1 hi).1; omega)).keep (w' := wr) (R' := Rn w.heap.size wr.heap.size) (fun b hb => ⟨hb.1, hb.2.1⟩) fun _ _ _ => rfl
  have := SR.of_row (R := Rn w.heap.size wr.heap.size) h1 ⟨hg, h1.lt⟩ (by rw [hlen]; omega) (fun i s hi => (hsub i s hi).ok) (fun i s hi => (hsub i s hi).a) (fun i s hi => (hsub i s hi).b) (fun i s hi => (hsub i s hi).e)
  rw [hlen] at this
  rw [← mid_done]
  exact ⟨h4, this⟩
end Go.Proofs.YtodicpnojcaanaaDoor
