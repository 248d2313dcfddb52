/-
  A draft's source: expr: contract.
  A draft's source: exprs: contract.
-/
import Derived.Test.YthiilnhiihfknaaDoorSSrc
import Derived.Test.YthiilnhiihfknaaDoorSSame
import Derived.Test.YthiilnhiihfknaaDoorSGrow
namespace Go.Proofs.YthiilnhiihfknaaDoor
open Go Go.RowKit

/-! ### an expression's box as a row -/
abbrev EX (w : World) (b : Nat) (e : Ex) (v : Value) : Prop := RowAt w b 24 5 1 [eC e v]
abbrev store5E (w : World) (b : Nat) (e : Ex) (v : Value) : World :=
  (((((w.setCell ⟨b, 0, none⟩ (.int .i64 e.kind)).setCell ⟨b, 1, none⟩ (.int .i64 e.op)).setCell ⟨b, 2, none⟩ (.int .i64 e.num)).setCell ⟨b, 3, none⟩ (.string (B e.name))).setCell ⟨b, 4, none⟩ v)
section
variable {w : World} {b : Nat} {e : Ex} {v : Value}
theorem EX.new (w : World) (e : Ex) (v : Value) : EX (w.alloc (eO e v)) w.heap.size e v := by
  refine ⟨_, heap_alloc_new w _, rfl, Nat.le_refl _, fun r hr => ?_, fun i r j u hi hj => ?_⟩
  · simp only [List.mem_cons, List.not_mem_nil, or_false] at hr; subst hr; rfl
  · match i, hi with
    | 0, hi =>
      cases hi
      rw [Nat.zero_mul, Nat.zero_add, List.getElem?_toArray]
      exact hj
    | i + 1, hi => simp at hi
theorem EX.at_ (h : EX w b e v) : w.cell? ⟨b, 0, none⟩ = some (.int .i64 e.kind) ∧ w.cell? ⟨b, 1, none⟩ = some (.int .i64 e.op) ∧ w.cell? ⟨b, 2, none⟩ = some (.int .i64 e.num) ∧ w.cell? ⟨b, 3, none⟩ = some (.string (B e.name)) ∧ w.cell? ⟨b, 4, none⟩ = some v := by
  have c := fun (j : Nat) u hj => RowAt.cell h (i := 0) (j := j) (u := u) (r := eC e v) rfl hj
  have c0 := c 0 _ rfl
  have c1 := c 1 _ rfl
  have c2 := c 2 _ rfl
  have c3 := c 3 _ rfl
  have c4 := c 4 _ rfl
  exact ⟨c0, c1, c2, c3, c4⟩
theorem EX.put (h : EX w b e v) (e' : Ex) (v' : Value) : EX (store5E w b e' v') b e' v' := RowAt.set5 h (i := 0) (r := eC e v) rfl _ _ _ _ _
end
theorem store5E_size (w : World) (b : Nat) (e : Ex) (v : Value) : (store5E w b e v).heap.size = w.heap.size := by simp only [store5E, size_set]
theorem store5E_cell (w : World) (g : Nat) (e : Ex) (v : Value) {b : Nat} (hb : b ≠ g) (k : Nat) : (store5E w g e v).cell? ⟨b, k, none⟩ = w.cell? ⟨b, k, none⟩ := by
  apply World.cell?_of_block
  simp only [store5E]
  rw [Below.heap_setCell _ _ _ b hb, Below.heap_setCell _ _ _ b hb, Below.heap_setCell _ _ _ b hb, Below.heap_setCell _ _ _ b hb, Below.heap_setCell _ _ _ b hb]

/-- What expr gives. -/
def ExprR (w : World) (S M : Nat) (l : Bytes) (r : Ex × Nat) (left : Nat) (e : Ending) (w' : World) : Prop :=
  ∃ v, e = .returned (eV r.1 v) ∧ Fr S S w w' ∧ SrcAt w' S M l ⟨r.2, left⟩ ∧ ER w' (Rn w.heap.size w'.heap.size) r.1.args v
theorem expr_fin {w w2 : World} {S M : Nat} {l : Bytes} {left p : Nat} {x : Ex} {v : Value} (hM : M ≤ w.heap.size) (hF : Fr S S w w2) (hS : SrcAt w2 S M l ⟨p, left⟩) (hE : ER w2 (fun b => w.heap.size < b ∧ b < w2.heap.size) x.args v) :
    ExprR w S M l (x, p) left (.returned (eV x v)) (store5E w2 w.heap.size x v) := by
  refine ⟨v, rfl, ?_, ?_, ?_⟩
  · exact ((((hF.setNew (p := ⟨w.heap.size, _, none⟩) (Nat.le_refl _) _).setNew (p := ⟨w.heap.size, _, none⟩) (Nat.le_refl _) _).setNew (p := ⟨w.heap.size, _, none⟩) (Nat.le_refl _) _).setNew (p := ⟨w.heap.size, _, none⟩) (Nat.le_refl _) _).setNew (p := ⟨w.heap.size, _, none⟩) (Nat.le_refl _) _
  · exact ((((hS.set (p := ⟨w.heap.size, _, none⟩) hM _).set (p := ⟨w.heap.size, _, none⟩) hM _).set (p := ⟨w.heap.size, _, none⟩) hM _).set (p := ⟨w.heap.size, _, none⟩) hM _).set (p := ⟨w.heap.size, _, none⟩) hM _
  · exact hE.keep (fun b hb => ⟨by omega, by rw [store5E_size]; exact hb.2⟩) fun b i hb => store5E_cell _ _ _ _ (by omega) _
/-- One expression in a new row. -/
theorem ER.one {w : World} {R : Nat → Prop} {a : Ex} {v : Value} {c : Nat} (ha : OkE a) (h : ER w R a.args v) (hR : ∀ b, R b → b < w.heap.size) (T : TypeId) :
    ER (w.alloc (.cells (eC a v).toArray T)) (fun b => R b ∨ b = w.heap.size) [a] (.slice (some ⟨w.heap.size, 0, none⟩) 1 c) := by
  have k := fun (i : Nat) (u : Value) (h : (eC a v)[i]? = some u) => newCell w (eC a v).toArray T i u (by rw [List.getElem?_toArray]; exact h)
  refine .mk [a] (some ⟨w.heap.size, 0, none⟩) c (fun _ => v) (by simp) (fun i e he => ?_) (fun i e he => ?_)
  · match i, he with
    | 0, he => cases he; exact ⟨_, 0, rfl, .inr rfl, ha, ⟨k 0 _ rfl, k 1 _ rfl, k 2 _ rfl, k 3 _ rfl, k 4 _ rfl⟩⟩
    | i + 1, he => simp at he
  · match i, he with
    | 0, he => cases he; exact h.keep (fun b hb => .inl hb) fun b i hb => (bal w _).cell (p := ⟨b, i, none⟩) (hR b hb)
    | i + 1, he => simp at he
theorem ER.two {w : World} {R : Nat → Prop} {a b : Ex} {va vb : Value} {c : Nat} (ha : OkE a) (hb : OkE b) (h1 : ER w R a.args va) (h2 : ER w R b.args vb) (hR : ∀ b, R b → b < w.heap.size) (T : TypeId) (ws : List Value) (hw : ws = eC a va ++ eC b vb) :
    ER (w.alloc (.cells ws.toArray T)) (fun b => R b ∨ b = w.heap.size) [a, b] (.slice (some ⟨w.heap.size, 0, none⟩) 2 c) := by
  subst hw
  have k := fun (i : Nat) (u : Value) (h : (eC a va ++ eC b vb)[i]? = some u) => newCell w (eC a va ++ eC b vb).toArray T i u (by rw [List.getElem?_toArray]; exact h)
  refine .mk [a, b] (some ⟨w.heap.size, 0, none⟩) c (fun i => if i = 0 then va else vb) (by simp) (fun i e he => ?_) (fun i e he => ?_)
  · match i, he with
    | 0, he => cases he; exact ⟨_, 0, rfl, .inr rfl, ha, ⟨k 0 _ rfl, k 1 _ rfl, k 2 _ rfl, k 3 _ rfl, k 4 _ rfl⟩⟩
    | 1, he => cases he; exact ⟨_, 0, rfl, .inr rfl, hb, ⟨k 5 _ rfl, k 6 _ rfl, k 7 _ rfl, k 8 _ rfl, k 9 _ rfl⟩⟩
    | i + 2, he => simp at he
  · match i, he with
    | 0, he => cases he; exact h1.keep (fun b hb => .inl hb) fun b i hb => (bal w _).cell (p := ⟨b, i, none⟩) (hR b hb)
    | 1, he => cases he; exact h2.keep (fun b hb => .inl hb) fun b i hb => (bal w _).cell (p := ⟨b, i, none⟩) (hR b hb)
    | i + 2, he => simp at he
def BinRR (op : Int) (a b : Ex) (R : Nat → Prop) (w : World) (e : Ending) (w' : World) : Prop := ∃ v, e = .returned (eV ⟨5, op, 0, [], [a, b]⟩ v) ∧ Below w.heap.size w w' ∧ ER w' (fun b => R b ∨ (w.heap.size ≤ b ∧ b < w'.heap.size)) [a, b] v
set_option maxHeartbeats 1000000 in
theorem binary_reg (op : Int) (a b : Ex) (ha : OkE a) (hb : OkE b) (va vb : Value) (R : Nat → Prop) (w : World) (h1 : ER w R a.args va) (h2 : ER w R b.args vb) (hR : ∀ b, R b → b < w.heap.size) :
    Calls Tryd.prog 39 #[.int .i64 op, eV a va, eV b vb] w (BinRR op a b R w) := by
  obtain ⟨A1, c1, rfl⟩ := h1.slice
  obtain ⟨A2, c2, rfl⟩ := h2.slice
  have H1 := Lib.hid h1
  have H2 := Lib.hid h2
  have HR := Lib.hid hR
  clear h1 h2 hR
  go_enter Tryd.func39, Tryd.ntmps39
  go_wp2_with fail
  have hb2 := bal3 w (eO a (.slice A1 a.args.length c1)) (eO b (.slice A2 b.args.length c2)) (.cells #[.int .i64 5, .int .i64 op, .int .i64 0, .string ⟨#[]⟩, .slice (some ⟨w.heap.size + 1 + 1 + 1, 0, none⟩) 2 2] 24)
  refine bodyPost_ret (v := eV ⟨5, op, 0, [], [a, b]⟩ (.slice (some ⟨w.heap.size + 1 + 1 + 1, 0, none⟩) 2 2)) (by simp [results, Tryd.results39, go_sem]) rfl ⟨_, rfl, hb2.alloc hb2.size _, ?_⟩
  have hz : (((w.alloc (eO a (.slice A1 a.args.length c1))).alloc (eO b (.slice A2 b.args.length c2))).alloc (.cells #[.int .i64 5, .int .i64 op, .int .i64 0, .string ⟨#[]⟩, .slice (some ⟨w.heap.size + 1 + 1 + 1, 0, none⟩) 2 2] 24)).heap.size = w.heap.size + 1 + 1 + 1 := by simp
  have := ER.two (c := 2) ha hb (H1.out.keep (fun _ h => h) fun b i hb => hb2.cell (p := ⟨b, i, none⟩) (HR.out b hb)) (H2.out.keep (fun _ h => h) fun b i hb => hb2.cell (p := ⟨b, i, none⟩) (HR.out b hb)) (fun b hb => by have := HR.out b hb; rw [hz]; omega) 24 _ rfl
  rw [hz] at this
  refine this.keep (fun b hb => ?_) fun _ _ _ => rfl
  rcases hb with hb | hb
  · exact .inl hb
  · exact .inr ⟨by omega, by simp; omega⟩
theorem exprD_okE (l : Bytes) (d a : Nat) : OkE (exprD l (d + 1) a).1 := by
  have n2 := nextD_lt l (n := 2) (stepD l a) (by omega)
  have n13 := nextD_lt l (n := 13) (stepD l a) (by omega)
  have nm := numsD_ok (nextD l 5 (stepD l a))
  have nl := nameD_len l (stepD l a)
  rw [exprD]
  generalize numsD.getD (nextD l 5 (stepD l a)) 0 = z at nm
  split
  · exact ⟨by unfold okI; simp, by unfold okI; simp, by unfold okI; simp only; omega, by simp⟩
  split
  · exact ⟨by unfold okI; simp, by unfold okI; simp, by unfold okI; simp, by simp only; omega⟩
  split
  · exact ⟨by unfold okI; simp, by unfold okI; simp only; omega, by unfold okI; simp, by simp⟩
  split
  · exact ⟨by unfold okI; simp, by unfold okI; simp only; omega, by unfold okI; simp, by simp⟩
  split
  · exact ⟨by unfold okI; simp, by unfold okI; simp, by unfold okI; simp, by simp only; omega⟩
  split
  · exact ⟨by unfold okI; simp, by unfold okI; simp, by unfold okI; simp, by simp only; omega⟩
  · exact ⟨by unfold okI; simp, by unfold okI; simp, by unfold okI; simp only; omega, by simp⟩

section
variable (S M : Nat) (l : Bytes) (d : Nat) (D : Int) (s : Sr) (w : World) (hD : D = (d : Int) + 1) (hd : d ≤ 2) (h : SrcAt w S M l s)
include hD hd h
set_option maxRecDepth 100000 in
set_option maxHeartbeats 4000000 in
theorem expr_k2 (hk : nextD l 9 s.pos = 2) : Calls Tryd.prog 109 #[.pointer (some ⟨S, 0, none⟩), .int .i64 D] w (ExprR w S M l (exprD l (d + 1) s.pos) s.left) := by
  have HS := Lib.hid h
  have HK := Lib.hid hk
  have hD1 : 1 ≤ D := by omega
  have hD3 : D ≤ 3 := by omega
  have HX := Lib.hid (show exprD l (d + 1) s.pos = (⟨2, 0, (nextD l 2 (stepD l s.pos) : Int), [], []⟩, stepD l (stepD l s.pos)) by simp [exprD, kindD, hk])
  have hsl := h.slt
  clear h hk hD
  by_cases hd1 : D ≤ 1
  all_goals
    go_enter Tryd.func109, Tryd.ntmps109
    go_wp2_with fail
    refine (next_calls S M l s 9 (by omega) (by omega) _ (HS.out.bel (bal _ _))).mono ?_
    rintro e w1 ⟨rfl, hf1, hs1⟩
    rw [HK.out]
    have HF1 := Lib.hid ((Fr.of (N := S) (S := S) (bal w _)).trans hf1)
    have HX1 := Lib.hid ((EX.new w ⟨0, 0, 0, [], []⟩ (.slice none 0 0)).fr hf1 (by omega) (by omega))
    have HS1 := Lib.hid hs1
    clear hf1 hs1
    go_wp2_with fail
    refine (next_calls S M l ⟨stepD l s.pos, s.left⟩ 2 (by omega) (by omega) _ HS1.out).mono ?_
    rintro e w2 ⟨rfl, hf2, hs2⟩
    have HF2 := Lib.hid (HF1.out.trans hf2)
    have HX2 := Lib.hid (HX1.out.fr hf2 (by omega) (by omega))
    have HS2 := Lib.hid hs2
    obtain ⟨s0, s1, s2, s3, s4⟩ := EX.at_ HX2.out
    have fr := HX2.out.free
    clear hf2 hs2
    go_wp2_with fail
    obtain ⟨t0, t1, t2, t3, t4⟩ := EX.at_ (EX.put HX2.out ⟨2, 0, (nextD l 2 (stepD l s.pos) : Nat), [], []⟩ (.slice none 0 0))
    clear s0 s1 s2 s3 s4 fr
    refine bodyPost_ret (v := eV ⟨2, 0, (nextD l 2 (stepD l s.pos) : Nat), [], []⟩ (.slice none 0 0)) (by simp [results, Tryd.results109, go_sem, t0, t1, t2, t3, t4]) rfl ?_
    rw [HX.out]
    exact expr_fin HS.out.le HF2.out HS2.out (ER.nil _ _)
set_option maxRecDepth 100000 in
set_option maxHeartbeats 4000000 in
theorem expr_k3 (hk : nextD l 9 s.pos = 3) : Calls Tryd.prog 109 #[.pointer (some ⟨S, 0, none⟩), .int .i64 D] w (ExprR w S M l (exprD l (d + 1) s.pos) s.left) := by
  have HS := Lib.hid h
  have HK := Lib.hid hk
  have hD1 : 1 ≤ D := by omega
  have hD3 : D ≤ 3 := by omega
  have HX := Lib.hid (show exprD l (d + 1) s.pos = (⟨3, 0, 0, nameD l (stepD l s.pos), []⟩, stepD l (stepD l s.pos)) by simp [exprD, kindD, hk])
  have hsl := h.slt
  clear h hk hD
  by_cases hd1 : D ≤ 1
  all_goals
    go_enter Tryd.func109, Tryd.ntmps109
    go_wp2_with fail
    refine (next_calls S M l s 9 (by omega) (by omega) _ (HS.out.bel (bal _ _))).mono ?_
    rintro e w1 ⟨rfl, hf1, hs1⟩
    rw [HK.out]
    have HF1 := Lib.hid ((Fr.of (N := S) (S := S) (bal w _)).trans hf1)
    have HX1 := Lib.hid ((EX.new w ⟨0, 0, 0, [], []⟩ (.slice none 0 0)).fr hf1 (by omega) (by omega))
    have HS1 := Lib.hid hs1
    clear hf1 hs1
    go_wp2_with fail
    refine (nmD_calls S M l ⟨stepD l s.pos, s.left⟩ _ HS1.out).mono ?_
    rintro e w2 ⟨rfl, hf2, hs2⟩
    have HF2 := Lib.hid (HF1.out.trans hf2)
    have HX2 := Lib.hid (HX1.out.fr hf2 (by omega) (by omega))
    have HS2 := Lib.hid hs2
    clear hf2 hs2
    go_wp2_with fail
    refine (name_fn_calls (nameD l (stepD l s.pos)) _).mono ?_
    rintro e w3 ⟨rfl, hb3⟩
    have HF3 := Lib.hid (HF2.out.trans (Fr.of (N := S) (S := S) hb3))
    have HX3 := Lib.hid (HX2.out.fr (Fr.of (N := S) (S := S) hb3) (by omega) (by omega))
    have HS3 := Lib.hid (HS2.out.bel hb3)
    clear hb3
    obtain ⟨s0, s1, s2, s3, s4⟩ := EX.at_ HX3.out
    have fr := HX3.out.free
    go_wp2_with fail
    obtain ⟨t0, t1, t2, t3, t4⟩ := EX.at_ (EX.put HX3.out ⟨3, 0, 0, nameD l (stepD l s.pos), []⟩ (.slice none 0 0))
    clear s0 s1 s2 s3 s4 fr
    refine bodyPost_ret (v := eV ⟨3, 0, 0, nameD l (stepD l s.pos), []⟩ (.slice none 0 0)) (by simp [results, Tryd.results109, go_sem, t0, t1, t2, t3, t4]) rfl ?_
    rw [HX.out]
    exact expr_fin HS.out.le HF3.out HS3.out (ER.nil _ _)
set_option maxRecDepth 100000 in
set_option maxHeartbeats 4000000 in
theorem expr_k4 (hk : nextD l 9 s.pos = 4) : Calls Tryd.prog 109 #[.pointer (some ⟨S, 0, none⟩), .int .i64 D] w (ExprR w S M l (exprD l (d + 1) s.pos) s.left) := by
  have HS := Lib.hid h
  have HK := Lib.hid hk
  have hD1 : 1 ≤ D := by omega
  have hD3 : D ≤ 3 := by omega
  have HX := Lib.hid (show exprD l (d + 1) s.pos = (⟨3, 0, 0, nameD l (stepD l s.pos), []⟩, stepD l (stepD l s.pos)) by simp [exprD, kindD, hk])
  have hsl := h.slt
  clear h hk hD
  by_cases hd1 : D ≤ 1
  all_goals
    go_enter Tryd.func109, Tryd.ntmps109
    go_wp2_with fail
    refine (next_calls S M l s 9 (by omega) (by omega) _ (HS.out.bel (bal _ _))).mono ?_
    rintro e w1 ⟨rfl, hf1, hs1⟩
    rw [HK.out]
    have HF1 := Lib.hid ((Fr.of (N := S) (S := S) (bal w _)).trans hf1)
    have HX1 := Lib.hid ((EX.new w ⟨0, 0, 0, [], []⟩ (.slice none 0 0)).fr hf1 (by omega) (by omega))
    have HS1 := Lib.hid hs1
    clear hf1 hs1
    go_wp2_with fail
    refine (nmD_calls S M l ⟨stepD l s.pos, s.left⟩ _ HS1.out).mono ?_
    rintro e w2 ⟨rfl, hf2, hs2⟩
    have HF2 := Lib.hid (HF1.out.trans hf2)
    have HX2 := Lib.hid (HX1.out.fr hf2 (by omega) (by omega))
    have HS2 := Lib.hid hs2
    clear hf2 hs2
    go_wp2_with fail
    refine (name_fn_calls (nameD l (stepD l s.pos)) _).mono ?_
    rintro e w3 ⟨rfl, hb3⟩
    have HF3 := Lib.hid (HF2.out.trans (Fr.of (N := S) (S := S) hb3))
    have HX3 := Lib.hid (HX2.out.fr (Fr.of (N := S) (S := S) hb3) (by omega) (by omega))
    have HS3 := Lib.hid (HS2.out.bel hb3)
    clear hb3
    obtain ⟨s0, s1, s2, s3, s4⟩ := EX.at_ HX3.out
    have fr := HX3.out.free
    go_wp2_with fail
    obtain ⟨t0, t1, t2, t3, t4⟩ := EX.at_ (EX.put HX3.out ⟨3, 0, 0, nameD l (stepD l s.pos), []⟩ (.slice none 0 0))
    clear s0 s1 s2 s3 s4 fr
    refine bodyPost_ret (v := eV ⟨3, 0, 0, nameD l (stepD l s.pos), []⟩ (.slice none 0 0)) (by simp [results, Tryd.results109, go_sem, t0, t1, t2, t3, t4]) rfl ?_
    rw [HX.out]
    exact expr_fin HS.out.le HF3.out HS3.out (ER.nil _ _)
set_option maxRecDepth 100000 in
set_option maxHeartbeats 4000000 in
theorem expr_z5 (hz : d = 0) (hk : nextD l 9 s.pos = 5) : Calls Tryd.prog 109 #[.pointer (some ⟨S, 0, none⟩), .int .i64 D] w (ExprR w S M l (exprD l (d + 1) s.pos) s.left) := by
  have HS := Lib.hid h
  have HK := Lib.hid hk
  have hD1 : 1 ≤ D := by omega
  have hD3 : D ≤ 3 := by omega
  have HX := Lib.hid (show exprD l (d + 1) s.pos = (⟨3, 0, 0, nameD l (stepD l s.pos), []⟩, stepD l (stepD l s.pos)) by simp [exprD, kindD, hk, hz])
  have hsl := h.slt
  have hd1 : D ≤ 1 := by have := hd; omega
  clear h hk hD hz
  all_goals
    go_enter Tryd.func109, Tryd.ntmps109
    go_wp2_with fail
    refine (next_calls S M l s 9 (by omega) (by omega) _ (HS.out.bel (bal _ _))).mono ?_
    rintro e w1 ⟨rfl, hf1, hs1⟩
    rw [HK.out]
    have HF1 := Lib.hid ((Fr.of (N := S) (S := S) (bal w _)).trans hf1)
    have HX1 := Lib.hid ((EX.new w ⟨0, 0, 0, [], []⟩ (.slice none 0 0)).fr hf1 (by omega) (by omega))
    have HS1 := Lib.hid hs1
    clear hf1 hs1
    go_wp2_with fail
    refine (nmD_calls S M l ⟨stepD l s.pos, s.left⟩ _ HS1.out).mono ?_
    rintro e w2 ⟨rfl, hf2, hs2⟩
    have HF2 := Lib.hid (HF1.out.trans hf2)
    have HX2 := Lib.hid (HX1.out.fr hf2 (by omega) (by omega))
    have HS2 := Lib.hid hs2
    clear hf2 hs2
    go_wp2_with fail
    refine (name_fn_calls (nameD l (stepD l s.pos)) _).mono ?_
    rintro e w3 ⟨rfl, hb3⟩
    have HF3 := Lib.hid (HF2.out.trans (Fr.of (N := S) (S := S) hb3))
    have HX3 := Lib.hid (HX2.out.fr (Fr.of (N := S) (S := S) hb3) (by omega) (by omega))
    have HS3 := Lib.hid (HS2.out.bel hb3)
    clear hb3
    obtain ⟨s0, s1, s2, s3, s4⟩ := EX.at_ HX3.out
    have fr := HX3.out.free
    go_wp2_with fail
    obtain ⟨t0, t1, t2, t3, t4⟩ := EX.at_ (EX.put HX3.out ⟨3, 0, 0, nameD l (stepD l s.pos), []⟩ (.slice none 0 0))
    clear s0 s1 s2 s3 s4 fr
    refine bodyPost_ret (v := eV ⟨3, 0, 0, nameD l (stepD l s.pos), []⟩ (.slice none 0 0)) (by simp [results, Tryd.results109, go_sem, t0, t1, t2, t3, t4]) rfl ?_
    rw [HX.out]
    exact expr_fin HS.out.le HF3.out HS3.out (ER.nil _ _)
set_option maxRecDepth 100000 in
set_option maxHeartbeats 4000000 in
theorem expr_z6 (hz : d = 0) (hk : nextD l 9 s.pos = 6) : Calls Tryd.prog 109 #[.pointer (some ⟨S, 0, none⟩), .int .i64 D] w (ExprR w S M l (exprD l (d + 1) s.pos) s.left) := by
  have HS := Lib.hid h
  have HK := Lib.hid hk
  have hD1 : 1 ≤ D := by omega
  have hD3 : D ≤ 3 := by omega
  have HX := Lib.hid (show exprD l (d + 1) s.pos = (⟨3, 0, 0, nameD l (stepD l s.pos), []⟩, stepD l (stepD l s.pos)) by simp [exprD, kindD, hk, hz])
  have hsl := h.slt
  have hd1 : D ≤ 1 := by have := hd; omega
  clear h hk hD hz
  all_goals
    go_enter Tryd.func109, Tryd.ntmps109
    go_wp2_with fail
    refine (next_calls S M l s 9 (by omega) (by omega) _ (HS.out.bel (bal _ _))).mono ?_
    rintro e w1 ⟨rfl, hf1, hs1⟩
    rw [HK.out]
    have HF1 := Lib.hid ((Fr.of (N := S) (S := S) (bal w _)).trans hf1)
    have HX1 := Lib.hid ((EX.new w ⟨0, 0, 0, [], []⟩ (.slice none 0 0)).fr hf1 (by omega) (by omega))
    have HS1 := Lib.hid hs1
    clear hf1 hs1
    go_wp2_with fail
    refine (nmD_calls S M l ⟨stepD l s.pos, s.left⟩ _ HS1.out).mono ?_
    rintro e w2 ⟨rfl, hf2, hs2⟩
    have HF2 := Lib.hid (HF1.out.trans hf2)
    have HX2 := Lib.hid (HX1.out.fr hf2 (by omega) (by omega))
    have HS2 := Lib.hid hs2
    clear hf2 hs2
    go_wp2_with fail
    refine (name_fn_calls (nameD l (stepD l s.pos)) _).mono ?_
    rintro e w3 ⟨rfl, hb3⟩
    have HF3 := Lib.hid (HF2.out.trans (Fr.of (N := S) (S := S) hb3))
    have HX3 := Lib.hid (HX2.out.fr (Fr.of (N := S) (S := S) hb3) (by omega) (by omega))
    have HS3 := Lib.hid (HS2.out.bel hb3)
    clear hb3
    obtain ⟨s0, s1, s2, s3, s4⟩ := EX.at_ HX3.out
    have fr := HX3.out.free
    go_wp2_with fail
    obtain ⟨t0, t1, t2, t3, t4⟩ := EX.at_ (EX.put HX3.out ⟨3, 0, 0, nameD l (stepD l s.pos), []⟩ (.slice none 0 0))
    clear s0 s1 s2 s3 s4 fr
    refine bodyPost_ret (v := eV ⟨3, 0, 0, nameD l (stepD l s.pos), []⟩ (.slice none 0 0)) (by simp [results, Tryd.results109, go_sem, t0, t1, t2, t3, t4]) rfl ?_
    rw [HX.out]
    exact expr_fin HS.out.le HF3.out HS3.out (ER.nil _ _)
set_option maxRecDepth 100000 in
set_option maxHeartbeats 4000000 in
theorem expr_z7 (hz : d = 0) (hk : nextD l 9 s.pos = 7) : Calls Tryd.prog 109 #[.pointer (some ⟨S, 0, none⟩), .int .i64 D] w (ExprR w S M l (exprD l (d + 1) s.pos) s.left) := by
  have HS := Lib.hid h
  have HK := Lib.hid hk
  have hD1 : 1 ≤ D := by omega
  have hD3 : D ≤ 3 := by omega
  have HX := Lib.hid (show exprD l (d + 1) s.pos = (⟨3, 0, 0, nameD l (stepD l s.pos), []⟩, stepD l (stepD l s.pos)) by simp [exprD, kindD, hk, hz])
  have hsl := h.slt
  have hd1 : D ≤ 1 := by have := hd; omega
  clear h hk hD hz
  all_goals
    go_enter Tryd.func109, Tryd.ntmps109
    go_wp2_with fail
    refine (next_calls S M l s 9 (by omega) (by omega) _ (HS.out.bel (bal _ _))).mono ?_
    rintro e w1 ⟨rfl, hf1, hs1⟩
    rw [HK.out]
    have HF1 := Lib.hid ((Fr.of (N := S) (S := S) (bal w _)).trans hf1)
    have HX1 := Lib.hid ((EX.new w ⟨0, 0, 0, [], []⟩ (.slice none 0 0)).fr hf1 (by omega) (by omega))
    have HS1 := Lib.hid hs1
    clear hf1 hs1
    go_wp2_with fail
    refine (nmD_calls S M l ⟨stepD l s.pos, s.left⟩ _ HS1.out).mono ?_
    rintro e w2 ⟨rfl, hf2, hs2⟩
    have HF2 := Lib.hid (HF1.out.trans hf2)
    have HX2 := Lib.hid (HX1.out.fr hf2 (by omega) (by omega))
    have HS2 := Lib.hid hs2
    clear hf2 hs2
    go_wp2_with fail
    refine (name_fn_calls (nameD l (stepD l s.pos)) _).mono ?_
    rintro e w3 ⟨rfl, hb3⟩
    have HF3 := Lib.hid (HF2.out.trans (Fr.of (N := S) (S := S) hb3))
    have HX3 := Lib.hid (HX2.out.fr (Fr.of (N := S) (S := S) hb3) (by omega) (by omega))
    have HS3 := Lib.hid (HS2.out.bel hb3)
    clear hb3
    obtain ⟨s0, s1, s2, s3, s4⟩ := EX.at_ HX3.out
    have fr := HX3.out.free
    go_wp2_with fail
    obtain ⟨t0, t1, t2, t3, t4⟩ := EX.at_ (EX.put HX3.out ⟨3, 0, 0, nameD l (stepD l s.pos), []⟩ (.slice none 0 0))
    clear s0 s1 s2 s3 s4 fr
    refine bodyPost_ret (v := eV ⟨3, 0, 0, nameD l (stepD l s.pos), []⟩ (.slice none 0 0)) (by simp [results, Tryd.results109, go_sem, t0, t1, t2, t3, t4]) rfl ?_
    rw [HX.out]
    exact expr_fin HS.out.le HF3.out HS3.out (ER.nil _ _)
set_option maxRecDepth 100000 in
set_option maxHeartbeats 4000000 in
theorem expr_k8 (hk : nextD l 9 s.pos = 8) : Calls Tryd.prog 109 #[.pointer (some ⟨S, 0, none⟩), .int .i64 D] w (ExprR w S M l (exprD l (d + 1) s.pos) s.left) := by
  have HS := Lib.hid h
  have HK := Lib.hid hk
  have hD1 : 1 ≤ D := by omega
  have hD3 : D ≤ 3 := by omega
  have HX := Lib.hid (show exprD l (d + 1) s.pos = (⟨7, 0, 0, nameD l (stepD l s.pos), []⟩, stepD l (stepD l s.pos)) by simp [exprD, kindD, hk])
  have hsl := h.slt
  clear h hk hD
  by_cases hd1 : D ≤ 1
  all_goals
    go_enter Tryd.func109, Tryd.ntmps109
    go_wp2_with fail
    refine (next_calls S M l s 9 (by omega) (by omega) _ (HS.out.bel (bal _ _))).mono ?_
    rintro e w1 ⟨rfl, hf1, hs1⟩
    rw [HK.out]
    have HF1 := Lib.hid ((Fr.of (N := S) (S := S) (bal w _)).trans hf1)
    have HX1 := Lib.hid ((EX.new w ⟨0, 0, 0, [], []⟩ (.slice none 0 0)).fr hf1 (by omega) (by omega))
    have HS1 := Lib.hid hs1
    clear hf1 hs1
    go_wp2_with fail
    refine (nmD_calls S M l ⟨stepD l s.pos, s.left⟩ _ HS1.out).mono ?_
    rintro e w2 ⟨rfl, hf2, hs2⟩
    have HF2 := Lib.hid (HF1.out.trans hf2)
    have HX2 := Lib.hid (HX1.out.fr hf2 (by omega) (by omega))
    have HS2 := Lib.hid hs2
    clear hf2 hs2
    obtain ⟨s0, s1, s2, s3, s4⟩ := EX.at_ HX2.out
    have fr := HX2.out.free
    go_wp2_with fail
    obtain ⟨t0, t1, t2, t3, t4⟩ := EX.at_ (EX.put HX2.out ⟨7, 0, 0, nameD l (stepD l s.pos), []⟩ (.slice none 0 0))
    clear s0 s1 s2 s3 s4 fr
    refine bodyPost_ret (v := eV ⟨7, 0, 0, nameD l (stepD l s.pos), []⟩ (.slice none 0 0)) (by simp [results, Tryd.results109, go_sem, t0, t1, t2, t3, t4]) rfl ?_
    rw [HX.out]
    exact expr_fin HS.out.le HF2.out HS2.out (ER.nil _ _)
set_option maxRecDepth 100000 in
set_option maxHeartbeats 4000000 in
theorem expr_k0 (hk : nextD l 9 s.pos = 0) : Calls Tryd.prog 109 #[.pointer (some ⟨S, 0, none⟩), .int .i64 D] w (ExprR w S M l (exprD l (d + 1) s.pos) s.left) := by
  have HS := Lib.hid h
  have HK := Lib.hid hk
  have hD1 : 1 ≤ D := by omega
  have hD3 : D ≤ 3 := by omega
  have HX := Lib.hid (show exprD l (d + 1) s.pos = (⟨1, 0, numsD.getD (nextD l 5 (stepD l s.pos)) 0, [], []⟩, stepD l (stepD l s.pos)) by simp [exprD, kindD, hk])
  have hsl := h.slt
  clear h hk hD
  by_cases hd1 : D ≤ 1
  all_goals
    go_enter Tryd.func109, Tryd.ntmps109
    go_wp2_with fail
    refine (next_calls S M l s 9 (by omega) (by omega) _ (HS.out.bel (bal _ _))).mono ?_
    rintro e w1 ⟨rfl, hf1, hs1⟩
    rw [HK.out]
    have HF1 := Lib.hid ((Fr.of (N := S) (S := S) (bal w _)).trans hf1)
    have HX1 := Lib.hid ((EX.new w ⟨0, 0, 0, [], []⟩ (.slice none 0 0)).fr hf1 (by omega) (by omega))
    have HS1 := Lib.hid hs1
    clear hf1 hs1
    go_wp2_with fail
    refine (next_calls S M l ⟨stepD l s.pos, s.left⟩ 5 (by omega) (by omega) _ (HS1.out.bel (bal _ _))).mono ?_
    rintro e w2 ⟨rfl, hf2, hs2⟩
    have hz1 : w.heap.size + 1 ≤ w1.heap.size := HX1.out.lt
    have HF2 := Lib.hid (HF1.out.trans ((Fr.of (N := S) (S := S) (bal w1 _)).trans hf2))
    have HX2 := Lib.hid (HX1.out.fr ((Fr.of (N := S) (S := S) (bal w1 _)).trans hf2) (by omega) (by omega))
    have HS2 := Lib.hid hs2
    have hi := nextD_lt l (n := 5) (stepD l s.pos) (by omega)
    have cc : ∀ i, i < 5 → w2.cell? ⟨w1.heap.size, i, none⟩ = some (.int .i64 (numsD.getD i 0)) := fun i hi => by
      refine (hf2.cell (b := w1.heap.size) (i := i) (by simp) (by omega) (by omega)).trans (newCell w1 _ _ i _ ?_)
      match i, hi with
      | 0, _ => rfl
      | 1, _ => rfl
      | 2, _ => rfl
      | 3, _ => rfl
      | 4, _ => rfl
    have c0 := cc _ hi
    clear hf2 hs2 cc
    generalize numsD.getD (nextD l 5 (stepD l s.pos)) 0 = z at *
    generalize nextD l 5 (stepD l s.pos) = i at *
    go_wp2_with fail
    refine (num_calls z _).mono ?_
    rintro e w3 ⟨rfl, hb3⟩
    have HF3 := Lib.hid (HF2.out.trans (Fr.of (N := S) (S := S) hb3))
    have HX3 := Lib.hid (HX2.out.fr (Fr.of (N := S) (S := S) hb3) (by omega) (by omega))
    have HS3 := Lib.hid (HS2.out.bel hb3)
    clear hb3 c0
    obtain ⟨s0, s1, s2, s3, s4⟩ := EX.at_ HX3.out
    have fr := HX3.out.free
    go_wp2_with fail
    obtain ⟨t0, t1, t2, t3, t4⟩ := EX.at_ (EX.put HX3.out ⟨1, 0, z, [], []⟩ (.slice none 0 0))
    clear s0 s1 s2 s3 s4 fr
    refine bodyPost_ret (v := eV ⟨1, 0, z, [], []⟩ (.slice none 0 0)) (by simp [results, Tryd.results109, go_sem, t0, t1, t2, t3, t4]) rfl ?_
    rw [HX.out]
    exact expr_fin HS.out.le HF3.out HS3.out (ER.nil _ _)
set_option maxRecDepth 100000 in
set_option maxHeartbeats 4000000 in
theorem expr_k1 (hk : nextD l 9 s.pos = 1) : Calls Tryd.prog 109 #[.pointer (some ⟨S, 0, none⟩), .int .i64 D] w (ExprR w S M l (exprD l (d + 1) s.pos) s.left) := by
  have HS := Lib.hid h
  have HK := Lib.hid hk
  have hD1 : 1 ≤ D := by omega
  have hD3 : D ≤ 3 := by omega
  have HX := Lib.hid (show exprD l (d + 1) s.pos = (⟨1, 0, numsD.getD (nextD l 5 (stepD l s.pos)) 0, [], []⟩, stepD l (stepD l s.pos)) by simp [exprD, kindD, hk])
  have hsl := h.slt
  clear h hk hD
  by_cases hd1 : D ≤ 1
  all_goals
    go_enter Tryd.func109, Tryd.ntmps109
    go_wp2_with fail
    refine (next_calls S M l s 9 (by omega) (by omega) _ (HS.out.bel (bal _ _))).mono ?_
    rintro e w1 ⟨rfl, hf1, hs1⟩
    rw [HK.out]
    have HF1 := Lib.hid ((Fr.of (N := S) (S := S) (bal w _)).trans hf1)
    have HX1 := Lib.hid ((EX.new w ⟨0, 0, 0, [], []⟩ (.slice none 0 0)).fr hf1 (by omega) (by omega))
    have HS1 := Lib.hid hs1
    clear hf1 hs1
    go_wp2_with fail
    refine (next_calls S M l ⟨stepD l s.pos, s.left⟩ 5 (by omega) (by omega) _ (HS1.out.bel (bal _ _))).mono ?_
    rintro e w2 ⟨rfl, hf2, hs2⟩
    have hz1 : w.heap.size + 1 ≤ w1.heap.size := HX1.out.lt
    have HF2 := Lib.hid (HF1.out.trans ((Fr.of (N := S) (S := S) (bal w1 _)).trans hf2))
    have HX2 := Lib.hid (HX1.out.fr ((Fr.of (N := S) (S := S) (bal w1 _)).trans hf2) (by omega) (by omega))
    have HS2 := Lib.hid hs2
    have hi := nextD_lt l (n := 5) (stepD l s.pos) (by omega)
    have cc : ∀ i, i < 5 → w2.cell? ⟨w1.heap.size, i, none⟩ = some (.int .i64 (numsD.getD i 0)) := fun i hi => by
      refine (hf2.cell (b := w1.heap.size) (i := i) (by simp) (by omega) (by omega)).trans (newCell w1 _ _ i _ ?_)
      match i, hi with
      | 0, _ => rfl
      | 1, _ => rfl
      | 2, _ => rfl
      | 3, _ => rfl
      | 4, _ => rfl
    have c0 := cc _ hi
    clear hf2 hs2 cc
    generalize numsD.getD (nextD l 5 (stepD l s.pos)) 0 = z at *
    generalize nextD l 5 (stepD l s.pos) = i at *
    go_wp2_with fail
    refine (num_calls z _).mono ?_
    rintro e w3 ⟨rfl, hb3⟩
    have HF3 := Lib.hid (HF2.out.trans (Fr.of (N := S) (S := S) hb3))
    have HX3 := Lib.hid (HX2.out.fr (Fr.of (N := S) (S := S) hb3) (by omega) (by omega))
    have HS3 := Lib.hid (HS2.out.bel hb3)
    clear hb3 c0
    obtain ⟨s0, s1, s2, s3, s4⟩ := EX.at_ HX3.out
    have fr := HX3.out.free
    go_wp2_with fail
    obtain ⟨t0, t1, t2, t3, t4⟩ := EX.at_ (EX.put HX3.out ⟨1, 0, z, [], []⟩ (.slice none 0 0))
    clear s0 s1 s2 s3 s4 fr
    refine bodyPost_ret (v := eV ⟨1, 0, z, [], []⟩ (.slice none 0 0)) (by simp [results, Tryd.results109, go_sem, t0, t1, t2, t3, t4]) rfl ?_
    rw [HX.out]
    exact expr_fin HS.out.le HF3.out HS3.out (ER.nil _ _)
end
section
variable (S M : Nat) (l : Bytes) (d : Nat) (D : Int) (s : Sr) (w : World) (hD : D = (d : Int) + 2) (hd : d ≤ 1) (h : SrcAt w S M l s)
  (ih : ∀ (s : Sr) (w : World), SrcAt w S M l s → Calls Tryd.prog 109 #[.pointer (some ⟨S, 0, none⟩), .int .i64 (D - 1)] w (ExprR w S M l (exprD l (d + 1) s.pos) s.left))
include hD hd h ih
set_option maxRecDepth 100000 in
set_option maxHeartbeats 4000000 in
theorem expr_r5 (hk : nextD l 9 s.pos = 5) : Calls Tryd.prog 109 #[.pointer (some ⟨S, 0, none⟩), .int .i64 D] w (ExprR w S M l (exprD l (d + 1 + 1) s.pos) s.left) := by
  have HS := Lib.hid h
  have HK := Lib.hid hk
  have IH := Lib.hid ih
  have hd1 : ¬ D ≤ 1 := by omega
  have hD2 : 2 ≤ D := by omega
  have hD3 : D ≤ 3 := by omega
  have HX := Lib.hid (show exprD l (d + 1 + 1) s.pos = (⟨4, 14 + (nextD l 2 (stepD l s.pos) : Int), 0, [], [(exprD l (d + 1) (stepD l (stepD l s.pos))).1]⟩, (exprD l (d + 1) (stepD l (stepD l s.pos))).2) by rw [exprD]; simp [kindD, hk])
  have hsl := h.slt
  clear h hk hD ih
  all_goals
    go_enter Tryd.func109, Tryd.ntmps109
    go_wp2_with fail
    refine (next_calls S M l s 9 (by omega) (by omega) _ (HS.out.bel (bal _ _))).mono ?_
    rintro e w1 ⟨rfl, hf1, hs1⟩
    rw [HK.out]
    have HF1 := Lib.hid ((Fr.of (N := S) (S := S) (bal w _)).trans hf1)
    have HX1 := Lib.hid ((EX.new w ⟨0, 0, 0, [], []⟩ (.slice none 0 0)).fr hf1 (by omega) (by omega))
    have HS1 := Lib.hid hs1
    clear hf1 hs1
    go_wp2_with fail
    have hz1 : w.heap.size + 1 ≤ w1.heap.size := HX1.out.lt
    have hn2 := nextD_lt l (n := 2) (stepD l s.pos) (by omega)
    refine (next_calls S M l ⟨stepD l s.pos, s.left⟩ 2 (by omega) (by omega) _ HS1.out).mono ?_
    rintro e w2 ⟨rfl, hf2, hs2⟩
    have HF2 := Lib.hid (HF1.out.trans hf2)
    have HX2 := Lib.hid (HX1.out.fr hf2 (by omega) (by omega))
    have HS2 := Lib.hid hs2
    go_wp2_with fail
    refine (IH.out ⟨stepD l (stepD l s.pos), s.left⟩ _ HS2.out).mono ?_
    rintro e w3 ⟨v3, rfl, hf3, hs3, he3⟩
    obtain ⟨A3, c3, rfl⟩ := he3.slice
    have hz3 : w2.heap.size ≤ w3.heap.size := hf3.size
    have HF3 := Lib.hid (HF2.out.trans hf3)
    have HX3 := Lib.hid (HX2.out.fr hf3 (by omega) (by omega))
    have HS3 := Lib.hid hs3
    have HE3 := Lib.hid he3
    have HO3 := Lib.hid (exprD_okE l d (stepD l (stepD l s.pos)))
    generalize hx3 : exprD l (d + 1) (stepD l (stepD l s.pos)) = x3 at *
    clear hx3
    have hz3s : ((w3.alloc (eO x3.1 (.slice A3 x3.1.args.length c3)))).heap.size = w3.heap.size + 1 := sz1 _ _
    have hb4 := bal w3 (eO x3.1 (.slice A3 x3.1.args.length c3))
    have hz2s : w1.heap.size ≤ w2.heap.size := hf2.size
    have HF4 := Lib.hid (HF3.out.trans (Fr.of (N := S) (S := S) hb4))
    have HX4 := Lib.hid (HX3.out.fr (Fr.of (N := S) (S := S) hb4) (by omega) (by omega))
    have HS4 := Lib.hid (HS3.out.bel hb4)
    have HE4 := Lib.hid (show ER _ (fun b => w.heap.size < b ∧ b < _) [x3.1] (.slice (some ⟨w3.heap.size, 0, none⟩) 1 1) from (ER.one (c := 1) HO3.out HE3.out (fun b hb => hb.2) 24).keep (R' := fun b => w.heap.size < b ∧ b < (w3.alloc (eO x3.1 (.slice A3 x3.1.args.length c3))).heap.size) (fun b hb => by rcases hb with hb | hb; exact ⟨by have := hb.1; omega, by have := hb.2; omega⟩; exact ⟨by omega, by omega⟩) fun _ _ _ => rfl)
    clear hf3 hs3 he3 hf2 hs2 hb4 hz3s hz2s
    obtain ⟨s0, s1, s2, s3, s4⟩ := EX.at_ HX4.out
    have fr := HX4.out.free
    go_wp2_with fail
    obtain ⟨t0, t1, t2, t3, t4⟩ := EX.at_ (EX.put HX4.out ⟨4, 14 + (nextD l 2 (stepD l s.pos) : Nat), 0, [], [x3.1]⟩ (.slice (some ⟨w3.heap.size, 0, none⟩) 1 1))
    clear s0 s1 s2 s3 s4 fr
    refine bodyPost_ret (v := eV ⟨4, 14 + (nextD l 2 (stepD l s.pos) : Nat), 0, [], [x3.1]⟩ (.slice (some ⟨w3.heap.size, 0, none⟩) 1 1)) (by simp [results, Tryd.results109, go_sem, t0, t1, t2, t3, t4]) rfl ?_
    rw [HX.out]
    exact expr_fin HS.out.le HF4.out HS4.out (HE4.out)
set_option maxRecDepth 100000 in
set_option maxHeartbeats 4000000 in
theorem expr_r7 (hk : nextD l 9 s.pos = 7) : Calls Tryd.prog 109 #[.pointer (some ⟨S, 0, none⟩), .int .i64 D] w (ExprR w S M l (exprD l (d + 1 + 1) s.pos) s.left) := by
  have HS := Lib.hid h
  have HK := Lib.hid hk
  have IH := Lib.hid ih
  have hd1 : ¬ D ≤ 1 := by omega
  have hD2 : 2 ≤ D := by omega
  have hD3 : D ≤ 3 := by omega
  have HX := Lib.hid (show exprD l (d + 1 + 1) s.pos = (⟨6, 0, 0, nameD l (stepD l s.pos), [(exprD l (d + 1) (stepD l (stepD l s.pos))).1]⟩, (exprD l (d + 1) (stepD l (stepD l s.pos))).2) by rw [exprD]; simp [kindD, hk])
  have hsl := h.slt
  clear h hk hD ih
  all_goals
    go_enter Tryd.func109, Tryd.ntmps109
    go_wp2_with fail
    refine (next_calls S M l s 9 (by omega) (by omega) _ (HS.out.bel (bal _ _))).mono ?_
    rintro e w1 ⟨rfl, hf1, hs1⟩
    rw [HK.out]
    have HF1 := Lib.hid ((Fr.of (N := S) (S := S) (bal w _)).trans hf1)
    have HX1 := Lib.hid ((EX.new w ⟨0, 0, 0, [], []⟩ (.slice none 0 0)).fr hf1 (by omega) (by omega))
    have HS1 := Lib.hid hs1
    clear hf1 hs1
    go_wp2_with fail
    have hz1 : w.heap.size + 1 ≤ w1.heap.size := HX1.out.lt
    refine (nmD_calls S M l ⟨stepD l s.pos, s.left⟩ _ HS1.out).mono ?_
    rintro e w2 ⟨rfl, hf2, hs2⟩
    have HF2 := Lib.hid (HF1.out.trans hf2)
    have HX2 := Lib.hid (HX1.out.fr hf2 (by omega) (by omega))
    have HS2 := Lib.hid hs2
    go_wp2_with fail
    refine (IH.out ⟨stepD l (stepD l s.pos), s.left⟩ _ HS2.out).mono ?_
    rintro e w3 ⟨v3, rfl, hf3, hs3, he3⟩
    obtain ⟨A3, c3, rfl⟩ := he3.slice
    have hz3 : w2.heap.size ≤ w3.heap.size := hf3.size
    have HF3 := Lib.hid (HF2.out.trans hf3)
    have HX3 := Lib.hid (HX2.out.fr hf3 (by omega) (by omega))
    have HS3 := Lib.hid hs3
    have HE3 := Lib.hid he3
    have HO3 := Lib.hid (exprD_okE l d (stepD l (stepD l s.pos)))
    generalize hx3 : exprD l (d + 1) (stepD l (stepD l s.pos)) = x3 at *
    clear hx3
    have hz3s : ((w3.alloc (eO x3.1 (.slice A3 x3.1.args.length c3)))).heap.size = w3.heap.size + 1 := sz1 _ _
    have hb4 := bal w3 (eO x3.1 (.slice A3 x3.1.args.length c3))
    have hz2s : w1.heap.size ≤ w2.heap.size := hf2.size
    have HF4 := Lib.hid (HF3.out.trans (Fr.of (N := S) (S := S) hb4))
    have HX4 := Lib.hid (HX3.out.fr (Fr.of (N := S) (S := S) hb4) (by omega) (by omega))
    have HS4 := Lib.hid (HS3.out.bel hb4)
    have HE4 := Lib.hid (show ER _ (fun b => w.heap.size < b ∧ b < _) [x3.1] (.slice (some ⟨w3.heap.size, 0, none⟩) 1 1) from (ER.one (c := 1) HO3.out HE3.out (fun b hb => hb.2) 24).keep (R' := fun b => w.heap.size < b ∧ b < (w3.alloc (eO x3.1 (.slice A3 x3.1.args.length c3))).heap.size) (fun b hb => by rcases hb with hb | hb; exact ⟨by have := hb.1; omega, by have := hb.2; omega⟩; exact ⟨by omega, by omega⟩) fun _ _ _ => rfl)
    clear hf3 hs3 he3 hf2 hs2 hb4 hz3s hz2s
    obtain ⟨s0, s1, s2, s3, s4⟩ := EX.at_ HX4.out
    have fr := HX4.out.free
    go_wp2_with fail
    obtain ⟨t0, t1, t2, t3, t4⟩ := EX.at_ (EX.put HX4.out ⟨6, 0, 0, nameD l (stepD l s.pos), [x3.1]⟩ (.slice (some ⟨w3.heap.size, 0, none⟩) 1 1))
    clear s0 s1 s2 s3 s4 fr
    refine bodyPost_ret (v := eV ⟨6, 0, 0, nameD l (stepD l s.pos), [x3.1]⟩ (.slice (some ⟨w3.heap.size, 0, none⟩) 1 1)) (by simp [results, Tryd.results109, go_sem, t0, t1, t2, t3, t4]) rfl ?_
    rw [HX.out]
    exact expr_fin HS.out.le HF4.out HS4.out (HE4.out)
set_option maxRecDepth 100000 in
set_option maxHeartbeats 4000000 in
theorem expr_r6 (hk : nextD l 9 s.pos = 6) : Calls Tryd.prog 109 #[.pointer (some ⟨S, 0, none⟩), .int .i64 D] w (ExprR w S M l (exprD l (d + 1 + 1) s.pos) s.left) := by
  have HS := Lib.hid h
  have HK := Lib.hid hk
  have IH := Lib.hid ih
  have hd1 : ¬ D ≤ 1 := by omega
  have hD2 : 2 ≤ D := by omega
  have hD3 : D ≤ 3 := by omega
  have HX := Lib.hid (show exprD l (d + 1 + 1) s.pos = (⟨5, 1 + (nextD l 13 (stepD l s.pos) : Int), 0, [], [(exprD l (d + 1) (stepD l (stepD l s.pos))).1, (exprD l (d + 1) (exprD l (d + 1) (stepD l (stepD l s.pos))).2).1]⟩, (exprD l (d + 1) (exprD l (d + 1) (stepD l (stepD l s.pos))).2).2) by rw [exprD]; simp [kindD, hk])
  have hsl := h.slt
  clear h hk hD ih
  all_goals
    go_enter Tryd.func109, Tryd.ntmps109
    go_wp2_with fail
    refine (next_calls S M l s 9 (by omega) (by omega) _ (HS.out.bel (bal _ _))).mono ?_
    rintro e w1 ⟨rfl, hf1, hs1⟩
    rw [HK.out]
    have HF1 := Lib.hid ((Fr.of (N := S) (S := S) (bal w _)).trans hf1)
    have HX1 := Lib.hid ((EX.new w ⟨0, 0, 0, [], []⟩ (.slice none 0 0)).fr hf1 (by omega) (by omega))
    have HS1 := Lib.hid hs1
    clear hf1 hs1
    go_wp2_with fail
    have hz1 : w.heap.size + 1 ≤ w1.heap.size := HX1.out.lt
    have hn13 := nextD_lt l (n := 13) (stepD l s.pos) (by omega)
    refine (next_calls S M l ⟨stepD l s.pos, s.left⟩ 13 (by omega) (by omega) _ HS1.out).mono ?_
    rintro e w2 ⟨rfl, hf2, hs2⟩
    have HF2 := Lib.hid (HF1.out.trans hf2)
    have HX2 := Lib.hid (HX1.out.fr hf2 (by omega) (by omega))
    have HS2 := Lib.hid hs2
    go_wp2_with fail
    refine (IH.out ⟨stepD l (stepD l s.pos), s.left⟩ _ HS2.out).mono ?_
    rintro e w3 ⟨v3, rfl, hf3, hs3, he3⟩
    obtain ⟨A3, c3, rfl⟩ := he3.slice
    have hz3 : w2.heap.size ≤ w3.heap.size := hf3.size
    have HF3 := Lib.hid (HF2.out.trans hf3)
    have HX3 := Lib.hid (HX2.out.fr hf3 (by omega) (by omega))
    have HS3 := Lib.hid hs3
    have HE3 := Lib.hid he3
    have HO3 := Lib.hid (exprD_okE l d (stepD l (stepD l s.pos)))
    clear hf3 hs3 he3
    go_wp2_with fail
    refine (IH.out ⟨(exprD l (d + 1) (stepD l (stepD l s.pos))).2, s.left⟩ _ HS3.out).mono ?_
    rintro e w4 ⟨v4, rfl, hf4, hs4, he4⟩
    obtain ⟨A4, c4, rfl⟩ := he4.slice
    have hz4 : w3.heap.size ≤ w4.heap.size := hf4.size
    have HF4 := Lib.hid (HF3.out.trans hf4)
    have HX4 := Lib.hid (HX3.out.fr hf4 (by omega) (by omega))
    have HS4 := Lib.hid hs4
    have HE4 := Lib.hid he4
    have HO4 := Lib.hid (exprD_okE l d ((exprD l (d + 1) (stepD l (stepD l s.pos))).2))
    have HE3b := Lib.hid (HE3.out.keep (R' := fun b => w.heap.size < b ∧ b < w4.heap.size) (fun b hb => ⟨by have := hb.1; have := hf2.size; omega, by have := hb.2; omega⟩) fun b i hb => hf4.cell hb.2 (by have := hb.1; have := hf2.size; omega) (by have := hb.1; have := hf2.size; omega))
    have HE4b := Lib.hid (HE4.out.keep (R' := fun b => w.heap.size < b ∧ b < w4.heap.size) (fun b hb => ⟨by have := hb.1; have := hf2.size; omega, hb.2⟩) fun _ _ _ => rfl)
    have hop : ∃ o : Int, o = 1 + (nextD l 13 (stepD l s.pos) : Int) := ⟨_, rfl⟩
    clear hf4 hs4 he4 hf2 hs2 HE3 HE4
    go_wp2_with fail
    refine (binary_reg (1 + (nextD l 13 (stepD l s.pos) : Int)) _ _ HO3.out HO4.out _ _ _ _ HE3b.out HE4b.out (fun b hb => hb.2)).mono ?_
    rintro e w5 ⟨v5, rfl, hb5, he5⟩
    obtain ⟨A5, c5, rfl⟩ := he5.slice
    have hz5 := hb5.size
    have hz40 := HX4.out.lt
    have HF5 := Lib.hid (HF4.out.trans (Fr.of (N := S) (S := S) hb5))
    have HX5 := Lib.hid (HX4.out.fr (Fr.of (N := S) (S := S) hb5) (by omega) (by omega))
    have HS5 := Lib.hid (HS4.out.bel hb5)
    have HE5 := Lib.hid (he5.keep (R' := fun b => w.heap.size < b ∧ b < w5.heap.size) (fun b hb => by rcases hb with hb | hb; exact ⟨hb.1, by have := hb.2; omega⟩; exact ⟨by have := hb.1; omega, hb.2⟩) fun _ _ _ => rfl)
    clear hb5 he5 hop
    simp only [List.length_cons, List.length_nil]
    obtain ⟨s0, s1, s2, s3, s4⟩ := EX.at_ HX5.out
    have fr := HX5.out.free
    go_wp2_with fail
    obtain ⟨t0, t1, t2, t3, t4⟩ := EX.at_ (EX.put HX5.out ⟨5, 1 + (nextD l 13 (stepD l s.pos) : Int), 0, [], [(exprD l (d + 1) (stepD l (stepD l s.pos))).1, (exprD l (d + 1) (exprD l (d + 1) (stepD l (stepD l s.pos))).2).1]⟩ (.slice A5 2 c5))
    clear s0 s1 s2 s3 s4 fr
    refine bodyPost_ret (v := eV ⟨5, 1 + (nextD l 13 (stepD l s.pos) : Int), 0, [], [(exprD l (d + 1) (stepD l (stepD l s.pos))).1, (exprD l (d + 1) (exprD l (d + 1) (stepD l (stepD l s.pos))).2).1]⟩ (.slice A5 2 c5)) (by simp [results, Tryd.results109, go_sem, t0, t1, t2, t3, t4]) rfl ?_
    rw [HX.out]
    exact expr_fin HS.out.le HF5.out HS5.out (HE5.out)
end
theorem expr_all (S M : Nat) (l : Bytes) (d : Nat) : ∀ (D : Int) (s : Sr) (w : World), D = (d : Int) + 1 → d ≤ 2 → SrcAt w S M l s →
    Calls Tryd.prog 109 #[.pointer (some ⟨S, 0, none⟩), .int .i64 D] w (ExprR w S M l (exprD l (d + 1) s.pos) s.left) := by
  induction d with
  | zero =>
    intro D s w hD hd h
    have hk := nextD_lt l (n := 9) s.pos (by omega)
    obtain h0 | h0 | h0 | h0 | h0 | h0 | h0 | h0 | h0 : nextD l 9 s.pos = 0 ∨ nextD l 9 s.pos = 1 ∨ nextD l 9 s.pos = 2 ∨ nextD l 9 s.pos = 3 ∨ nextD l 9 s.pos = 4 ∨ nextD l 9 s.pos = 5 ∨ nextD l 9 s.pos = 6 ∨ nextD l 9 s.pos = 7 ∨ nextD l 9 s.pos = 8 := by omega
    · exact expr_k0 S M l 0 D s w hD hd h h0
    · exact expr_k1 S M l 0 D s w hD hd h h0
    · exact expr_k2 S M l 0 D s w hD hd h h0
    · exact expr_k3 S M l 0 D s w hD hd h h0
    · exact expr_k4 S M l 0 D s w hD hd h h0
    · exact expr_z5 S M l 0 D s w hD hd h rfl h0
    · exact expr_z6 S M l 0 D s w hD hd h rfl h0
    · exact expr_z7 S M l 0 D s w hD hd h rfl h0
    · exact expr_k8 S M l 0 D s w hD hd h h0
  | succ d ih =>
    intro D s w hD hd h
    have hk := nextD_lt l (n := 9) s.pos (by omega)
    have ih' := fun (s : Sr) (w : World) (h : SrcAt w S M l s) => ih (D - 1) s w (by omega) (by omega) h
    obtain h0 | h0 | h0 | h0 | h0 | h0 | h0 | h0 | h0 : nextD l 9 s.pos = 0 ∨ nextD l 9 s.pos = 1 ∨ nextD l 9 s.pos = 2 ∨ nextD l 9 s.pos = 3 ∨ nextD l 9 s.pos = 4 ∨ nextD l 9 s.pos = 5 ∨ nextD l 9 s.pos = 6 ∨ nextD l 9 s.pos = 7 ∨ nextD l 9 s.pos = 8 := by omega
    · exact expr_k0 S M l (d + 1) D s w hD hd h h0
    · exact expr_k1 S M l (d + 1) D s w hD hd h h0
    · exact expr_k2 S M l (d + 1) D s w hD hd h h0
    · exact expr_k3 S M l (d + 1) D s w hD hd h h0
    · exact expr_k4 S M l (d + 1) D s w hD hd h h0
    · exact expr_r5 S M l d D s w (by omega) (by omega) h ih' h0
    · exact expr_r6 S M l d D s w (by omega) (by omega) h ih' h0
    · exact expr_r7 S M l d D s w (by omega) (by omega) h ih' h0
    · exact expr_k8 S M l (d + 1) D s w hD hd h h0
theorem exprD3_calls (S M : Nat) (l : Bytes) (s : Sr) (w : World) (h : SrcAt w S M l s) :
    Calls Tryd.prog 109 #[.pointer (some ⟨S, 0, none⟩), .int .i64 3] w (ExprR w S M l (exprD l 3 s.pos) s.left) := expr_all S M l 2 3 s w rfl (by omega) h
end Go.Proofs.YthiilnhiihfknaaDoor

namespace Go.Proofs.YthiilnhiihfknaaDoor
open Go Go.RowKit

/-- What exprs gives. -/
def ExsR (w : World) (S M : Nat) (l : Bytes) (r : List Ex × Nat) (left : Nat) (e : Ending) (w' : World) : Prop :=
  ∃ v, e = .returned v ∧ Fr S S w w' ∧ SrcAt w' S M l ⟨r.2, left⟩ ∧ ER w' (Rn w.heap.size w'.heap.size) r.1 v
def ExsI (w : World) (S M : Nat) (l : Bytes) (s : Sr) (i : Nat) (v : Value) (wr : World) : Prop := Fr S S w wr ∧ SrcAt wr S M l ⟨(exprsD l i s.pos).2, s.left⟩ ∧ GrI kE w.heap.size (exprsD l i s.pos).1 v wr
theorem ExsI.step {w wr w1 : World} {S M : Nat} {l : Bytes} {s : Sr} {i : Nat} {v v1 : Value} (h : ExsI w S M l s i v wr) (hM : M ≤ w.heap.size) (hS : S < w.heap.size) (hf : Fr S S wr w1) (hs : SrcAt w1 S M l ⟨(exprD l 3 (exprsD l i s.pos).2).2, s.left⟩)
    (he : ER w1 (Rn wr.heap.size w1.heap.size) (exprD l 3 (exprsD l i s.pos).2).1.args v1) : w.heap.size ≤ w1.heap.size ∧ ∃ xs, w1.ownsRow w.heap.size 24 5 v i xs ∧
    ∀ (o : Obj) g cap w8, w8.ownsRow w.heap.size 24 5 (.slice (some ⟨g, 0, none⟩) (i + 1) cap) (i + 1) (xs ++ eC (exprD l 3 (exprsD l i s.pos).2).1 v1) → (w1.alloc o).grownBy w8 v.ownBlock → (v.ownBlock = some g ∨ g = (w1.alloc o).heap.size) →
      ExsI w S M l s (i + 1) (.slice (some ⟨g, 0, none⟩) (i + 1) cap) w8 := by
  obtain ⟨h1, h2, h3⟩ := h
  have G1 := h3.fr hS hf
  have hp := h3.part (a := (exprD l 3 (exprsD l i s.pos).2).1) (x := v1) (w1 := w1) ⟨exprD_okE l 2 _, he⟩
  have hsz := h1.size
  have hsz1 := hf.size
  obtain ⟨xs, hown, hst⟩ := G1.own
  rw [exprsD_len] at hown hst
  refine ⟨by omega, xs, hown, fun o g cap w8 ho hg hat => ?_⟩
  obtain ⟨g1, g2⟩ := hst _ v1 o g cap w8 hp ho hg hat
  have hs8 : w1.heap.size ≤ w8.heap.size := by have := hg.size; simp at this; omega
  refine ⟨⟨g2.os.trans (hf.os.trans h1.os), g2.tape.trans (hf.tape.trans h1.tape), g2.output.trans (hf.output.trans h1.output), by omega, fun b hb hb1 hb2 => (g2.block b hb).trans ((hf.block b (by omega) hb1 hb2).trans (h1.block b hb hb1 hb2))⟩, ?_, g1⟩
  exact hs.low hs8 fun b hb => g2.block b (by omega)

theorem ret_end {v v' : Value} (h : v = v') : Ending.returned v = .returned v' := by rw [h]
set_option maxRecDepth 100000 in
set_option maxHeartbeats 4000000 in
theorem exprsD_calls (S M : Nat) (l : Bytes) (n : Nat) (hn : n ≤ 10) (s : Sr) (w : World) (h : SrcAt w S M l s) :
    Calls Tryd.prog 107 #[.pointer (some ⟨S, 0, none⟩), .int .i64 (n : Int)] w (ExsR w S M l (exprsD l n s.pos) s.left) := by
  have HS := Lib.hid h
  have hsl := h.slt
  have hM := h.le
  obtain ⟨i0, hi0, hz0, hz1, hz2⟩ := info_parts infoE
  have HI0 := Lib.hid hi0
  have HZ0 := Lib.hid hz0
  have HZ1 := Lib.hid hz1
  have HZ2 := Lib.hid hz2
  clear h hi0 hz0 hz1 hz2
  go_enter Tryd.func107, Tryd.ntmps107
  go_wp2_with fail
  go_loopw [5, 7] (fun v c wr => ∃ i : Nat, i ≤ n ∧ c = .int .i64 i ∧ Hid (ExsI w S M l s i v wr)) (fun _ c _ => n - (intOf c).toNat)
  case atStart => exact ⟨0, by omega, rfl, Lib.hid ⟨Fr.refl _ _ _, HS.out, GrI.start kE (Nat.le_refl _) (fun _ => .bool false)⟩⟩
  case round =>
    obtain ⟨i, hi, rfl, HJ⟩ := hrel
    by_cases hlt : i < n
    · go_wp2_with fail
      refine (exprD3_calls S M l ⟨(exprsD l i s.pos).2, s.left⟩ _ HJ.out.2.1).mono ?_
      rintro e w1 ⟨v1, rfl, hf1, hs1, he1⟩
      obtain ⟨A1, c1, rfl⟩ := he1.slice
      obtain ⟨hz1, xs, hown, hst⟩ := HJ.out.step hM hsl hf1 hs1 he1
      have HOW := Lib.hid hown
      have HST := Lib.hid hst
      clear hown hst hf1 hs1 he1
      generalize hx : (exprD l 3 (exprsD l i s.pos).2).1 = x at *
      clear hx
      go_wp2_with (at_builtin; go_loud (refine wpList_append_lies _ rfl (.tmp 9) (.tmp 12) 22 rfl w.heap.size 24 i0 _ 5 64 Tryd.underlying22 HI0.out HZ0.out HZ1.out HZ2.out rfl (by decide) u5 i xs rfl (HOW.out.alloc _) ⟨w1.heap.size, 0, none⟩ 1 1 (eC x (.slice A1 x.args.length c1)) rfl rfl (news_new _ _ _ _ rfl) (by intro u hu; simp [eC] at hu; rcases hu with rfl | rfl | rfl | rfl | rfl <;> rfl) (by decide) (by unfold maxLen; omega) (by omega) (by simp; omega) _ rfl ?_))
      intro g cap w8 hown8 hgr8 hat hlt8
      have HNI := Lib.hid (HST.out _ g cap w8 hown8 hgr8 (by rcases hat with h | h; exact .inl h; exact .inr (by rw [h]; simp)))
      clear hown8 hgr8 hat hlt8
      go_wp2_with fail
      go_roundw
      case rel => exact ⟨i + 1, by omega, by go_num, HNI⟩
      case measure => simp [intOf]; omega
    · obtain rfl : i = n := by omega
      have HD := Lib.hid (HJ.out.2.2.er (by rw [exprsD_len]; omega))
      go_wp2_with fail
      go_ret
      exact ⟨_, rfl, HJ.out.1, HJ.out.2.1, HD.out⟩
end Go.Proofs.YthiilnhiihfknaaDoor
