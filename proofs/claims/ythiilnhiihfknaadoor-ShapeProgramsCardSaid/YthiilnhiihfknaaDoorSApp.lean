/-
  append([]T{}, l...): a clone, as CloneR.
-/
import Derived.Test.YthiilnhiihfknaaDoorSMm
import Derived.Deep.AppendLies
namespace Go.Proofs.YthiilnhiihfknaaDoor
open Go Go.RowKit

section
variable {P : Program}
theorem run_append_none0 (W : World) (t ty e : TypeId) (i : TypeInfo) (ht : P.underlying t = some (.slice e)) (hi : P.info? e = some i) (g c : Nat) :
    (Builtin.append_ #[t, t] ty #[.slice (some ⟨g, 0, none⟩) 0 0, .slice none 0 c]).run P W = .ok (.slice (some ⟨g, 0, none⟩) 0 0) W := by
  simp [Builtin.append_, run_underlying ht, sizeOf, typeInfo, hi, Builtin.lenOf, Builtin.firstCells, storeCells]

theorem wpList_append_clone {ops : Array Oper} {rest : List Oper} {o : Oper} {a : Act} {Q : Exit → Act → World → Prop}
    (hgd : o.guard = none) (s x : Operand) (t : TypeId) (hop : o.op = Op.call { callee := Callee.builtin Builtin.append, args := #[s, x], argTypes := #[t, t] })
    (e : TypeId) (i : TypeInfo) (z : Value) (size bytes : Nat) (h1 : P.underlying t = some (.slice e)) (h2 : P.info? e = some i) (h3 : i.zero = some z) (h4 : i.size = size) (h5 : i.bytes = bytes) (h6 : z.cells.size = size) (h7 : 0 < size) (h8 : bytes ≤ 1000)
    (W : World) (H : Nat) (hH : W.heap.size = H) (hs : a.eval s = .slice (some ⟨H, 0, none⟩) 0 0) (rows : List (List Value)) (hlen : ∀ r ∈ rows, r.length = size) (h1c : ∀ u ∈ rows.flatten, u.oneCell' = true) (hn : rows.length ≤ 1000) (A : Option Addr) (n c : Nat) (hnl : n = rows.length) (hx : a.eval x = .slice A n c)
    (hrd : 0 < rows.length → ∃ b o, A = some ⟨b, o, none⟩ ∧ ∀ j u, rows.flatten[j]? = some u → (W.alloc (.cells #[] e)).cell? ⟨b, o + j, none⟩ = some u)
    (hK : ∀ v' w', CloneR W e size rows (.returned v') w' → wpList P ops Q rest (a.put o.dst v') w') : wpList P ops Q (o :: rest) a (W.alloc (.cells #[] e)) := by
  subst hH
  subst hnl
  rcases Nat.eq_zero_or_pos rows.length with h0 | h0
  · have hr := List.eq_nil_of_length_eq_zero h0
    subst hr
    have hD : CloneR W e size [] (.returned (.slice (some ⟨W.heap.size, 0, none⟩) 0 0)) (W.alloc (.cells #[] e)) := ⟨bal _ _, .inl ⟨rfl, _, _, rfl⟩⟩
    have hown : (W.alloc (.cells #[] e)).ownsRow W.heap.size e size (.slice (some ⟨W.heap.size, 0, none⟩) 0 0) 0 [] :=
      ⟨by simp, .inr ⟨W.heap.size, 0, #[], rfl, Nat.le_refl _, heap_alloc_new W _, Nat.le_refl _, by unfold maxLen; omega, by simp, by simp⟩⟩
    cases A with
    | none =>
      refine wpList_plain hgd fun K hK' => ?_
      have hrun := run_append_none0 (P := P) (W.alloc (.cells #[] e)) t o.type e i h1 h2 W.heap.size c
      unfold Oper.wp
      simp only [List.length_nil] at hx
      simp [execOp, hop, resolve, invoke, builtin, hs, hx, hrun, Result.andThen]
      exact hK' _ _ (hK _ _ hD)
    | some ad =>
      refine wpList_append_fits _ hgd s x t hop W.heap.size e i size h1 h2 h4 W.heap.size 0 0 [] hs hown ad 0 c [] hx (by simp) (by simp) (by simp) (by simp) ?_
      intro w' hw' hgr
      refine hK _ _ ⟨(bal W _).grown hgr (by simp) (by rintro k hk; simp at hk; omega), .inl ⟨rfl, _, _, rfl⟩⟩
  · obtain ⟨b, o', rfl, hc⟩ := hrd h0
    have hown : (W.alloc (.cells #[] e)).ownsRow W.heap.size e size (.slice (some ⟨W.heap.size, 0, none⟩) 0 0) 0 [] :=
      ⟨by simp, .inr ⟨W.heap.size, 0, #[], rfl, Nat.le_refl _, heap_alloc_new W _, Nat.le_refl _, by unfold maxLen; omega, by simp, by simp⟩⟩
    refine wpList_append_own _ hgd s x t hop W.heap.size e i z size bytes h1 h2 h3 h4 h5 h6 h7 _ 0 [] hs hown ⟨b, o', none⟩ rows.length c rows.flatten hx (flat_len hlen) (fun j u hu => ?_) h1c (by unfold maxLen; omega) (by rw [Nat.zero_add]; calc rows.length * bytes ≤ 1000 * 1000 := Nat.mul_le_mul hn h8
          _ ≤ _ := by omega) (by simp) ?_
    · rw [show (Addr.add ⟨b, o', none⟩ j) = ⟨b, o' + j, none⟩ by unfold Addr.add; split <;> simp_all]
      exact hc j u hu
    · intro v' w1 hown1 hgrow _
      refine hK _ _ (CloneR.of_own hlen (by simpa using hown1) ((bal W _).grown hgrow (by simp) (by rintro k hk; simp [Value.ownBlock] at hk; omega)))
end

/-- What has been cloned so reads as the expressions: the block is new. -/
theorem CloneR.exs {W w' : World} {R : Nat → Prop} {l : List Ex} {V : Nat → Value} {v : Value} (h : CloneR W 24 5 (rowsE l V) (.returned v) w') (hl : l.length ≤ 1000) (hR : ∀ b, R b → b < W.heap.size) (ho : ∀ (i : Nat) e, l[i]? = some e → OkE e) (hs : ∀ i e, l[i]? = some e → ER W R e.args (V i)) :
    Below W.heap.size W w' ∧ ∃ A c, v = .slice A l.length c ∧ ER w' (fun b => R b ∨ (W.heap.size ≤ b ∧ b < w'.heap.size)) l v := by
  obtain ⟨hb, h⟩ := h
  refine ⟨hb, ?_⟩
  rcases h with ⟨h, A, c, he⟩ | ⟨g, cap, he, hg, hr⟩
  · cases he
    have hl0 : l = [] := by
      have := rowsE_len l V
      rw [h] at this
      exact List.eq_nil_of_length_eq_zero this.symm
    subst hl0
    exact ⟨A, c, rfl, ER.nil _ _⟩
  · cases he
    rw [rowsE_len]
    refine ⟨_, _, rfl, ER.of_row hr (.inr ⟨hg, hr.lt⟩) (by omega) ho fun i e hi => (hs i e hi).keep (fun b hb' => .inl hb') fun b q hb' => hb.cell (hR b hb')⟩
end Go.Proofs.YthiilnhiihfknaaDoor
